/-
  The texts O1, O2, O3, O4, O5, O6, O7, O8 in one.
-/
import Derived.Test.YtleighihfgabkaaGreatDoorMPFnFormulas3
import Derived.Laws.Concat
import Derived.Laws.IdiomStrings
import Derived.Laws.Cover1
import Derived.Deep.AppendLies

/- O1:
  Formulas as trees, their texts, and the reading of a text. -/
namespace Go.Proofs.YtleighihfgabkaaGreatDoor

/-- How many places a byte has; none for a byte that is neither a gate nor a leaf. -/
def plc (c : UInt8) : Option Nat :=
  if c = 97 ∨ c = 98 ∨ c = 99 ∨ c = 100 ∨ c = 48 ∨ c = 49 then some 0 else if c = 33 then some 1 else if c = 38 ∨ c = 124 ∨ c = 94 then some 2 else if c = 63 ∨ c = 77 then some 3 else none
/-- Formulas. -/
inductive Fm where
  | leaf (c : UInt8)
  | one (c : UInt8) (a : Fm)
  | two (c : UInt8) (a b : Fm)
  | three (c : UInt8) (a b d : Fm)
def Fm.txt : Fm → List UInt8
  | .leaf c => [c]
  | .one c a => c :: a.txt
  | .two c a b => c :: (a.txt ++ b.txt)
  | .three c a b d => c :: (a.txt ++ (b.txt ++ d.txt))
/-- Every gate has as many formulas as it has places. -/
def Fm.wf : Fm → Prop
  | .leaf c => plc c = some 0
  | .one c a => plc c = some 1 ∧ a.wf
  | .two c a b => plc c = some 2 ∧ a.wf ∧ b.wf
  | .three c a b d => plc c = some 3 ∧ a.wf ∧ b.wf ∧ d.wf
theorem Fm.txt_pos (f : Fm) : 0 < f.txt.length := by cases f <;> simp [Fm.txt]
/-- The first formula of a text, and what is left. -/
def prs : Nat → List UInt8 → Option (Fm × List UInt8)
  | 0, _ => none
  | _ + 1, [] => none
  | n + 1, c :: l => match plc c with
    | some 0 => some (.leaf c, l)
    | some 1 => (prs n l).map fun p => (.one c p.1, p.2)
    | some 2 => (prs n l).bind fun p => (prs n p.2).map fun q => (.two c p.1 q.1, q.2)
    | some 3 => (prs n l).bind fun p => (prs n p.2).bind fun q => (prs n q.2).map fun r => (.three c p.1 q.1 r.1, r.2)
    | _ => none
theorem prs_sound : ∀ (n : Nat) (l : List UInt8) (f : Fm) (k : List UInt8), prs n l = some (f, k) → l = f.txt ++ k ∧ f.wf := by
  intro n
  induction n with
  | zero => intro l f k h; simp [prs] at h
  | succ n ih =>
    intro l f k h
    cases l with
    | nil => simp [prs] at h
    | cons c l =>
      simp only [prs] at h
      split at h
      · rename_i hc
        simp only [Option.some.injEq, Prod.mk.injEq] at h
        obtain ⟨rfl, rfl⟩ := h
        exact ⟨rfl, hc⟩
      · rename_i hc
        cases h1 : prs n l with
        | none => rw [h1] at h; simp at h
        | some p =>
          obtain ⟨a, l1⟩ := p
          rw [h1] at h
          simp only [Option.map_some, Option.some.injEq, Prod.mk.injEq] at h
          obtain ⟨rfl, rfl⟩ := h
          obtain ⟨e, w⟩ := ih l a l1 h1
          exact ⟨by rw [e]; rfl, hc, w⟩
      · rename_i hc
        cases h1 : prs n l with
        | none => rw [h1] at h; simp at h
        | some p =>
          obtain ⟨a, l1⟩ := p
          rw [h1] at h
          simp only [Option.bind_some] at h
          cases h2 : prs n l1 with
          | none => rw [h2] at h; simp at h
          | some q =>
            obtain ⟨b, l2⟩ := q
            rw [h2] at h
            simp only [Option.map_some, Option.some.injEq, Prod.mk.injEq] at h
            obtain ⟨rfl, rfl⟩ := h
            obtain ⟨e, w⟩ := ih l a l1 h1
            obtain ⟨e2, w2⟩ := ih l1 b l2 h2
            exact ⟨by rw [e, e2]; simp [Fm.txt], hc, w, w2⟩
      · rename_i hc
        cases h1 : prs n l with
        | none => rw [h1] at h; simp at h
        | some p =>
          obtain ⟨a, l1⟩ := p
          rw [h1] at h
          simp only [Option.bind_some] at h
          cases h2 : prs n l1 with
          | none => rw [h2] at h; simp at h
          | some q =>
            obtain ⟨b, l2⟩ := q
            rw [h2] at h
            simp only [Option.bind_some] at h
            cases h3 : prs n l2 with
            | none => rw [h3] at h; simp at h
            | some r =>
              obtain ⟨d, l3⟩ := r
              rw [h3] at h
              simp only [Option.map_some, Option.some.injEq, Prod.mk.injEq] at h
              obtain ⟨rfl, rfl⟩ := h
              obtain ⟨e, w⟩ := ih l a l1 h1
              obtain ⟨e2, w2⟩ := ih l1 b l2 h2
              obtain ⟨e3, w3⟩ := ih l2 d l3 h3
              exact ⟨by rw [e, e2, e3]; simp [Fm.txt], hc, w, w2, w3⟩
      · simp at h
theorem prs_full : ∀ (f : Fm), f.wf → ∀ (n : Nat) (k : List UInt8), f.txt.length ≤ n → prs n (f.txt ++ k) = some (f, k) := by
  intro f
  induction f with
  | leaf c =>
    intro h n k hn
    obtain ⟨n, rfl⟩ : ∃ n', n = n' + 1 := ⟨n - 1, by simp [Fm.txt] at hn; omega⟩
    simp only [Fm.wf] at h
    simp [Fm.txt, prs, h]
  | one c a iha =>
    intro h n k hn
    simp only [Fm.txt, List.length_cons] at hn
    obtain ⟨n, rfl⟩ : ∃ n', n = n' + 1 := ⟨n - 1, by omega⟩
    obtain ⟨hc, ha⟩ := h
    simp [Fm.txt, prs, hc, iha ha n k (by omega)]
  | two c a b iha ihb =>
    intro h n k hn
    simp only [Fm.txt, List.length_cons, List.length_append] at hn
    obtain ⟨n, rfl⟩ : ∃ n', n = n' + 1 := ⟨n - 1, by omega⟩
    obtain ⟨hc, ha, hb⟩ := h
    simp [Fm.txt, prs, hc, iha ha n (b.txt ++ k) (by omega), ihb hb n k (by omega)]
  | three c a b d iha ihb ihd =>
    intro h n k hn
    simp only [Fm.txt, List.length_cons, List.length_append] at hn
    obtain ⟨n, rfl⟩ : ∃ n', n = n' + 1 := ⟨n - 1, by omega⟩
    obtain ⟨hc, ha, hb, hd⟩ := h
    simp [Fm.txt, prs, hc, iha ha n (b.txt ++ (d.txt ++ k)) (by omega), ihb hb n (d.txt ++ k) (by omega), ihd hd n k (by omega)]
/-- The first formula of a text. -/
def rdF (l : List UInt8) : Option (Fm × List UInt8) := prs l.length l
theorem rdF_some {l : List UInt8} {f : Fm} {k : List UInt8} : rdF l = some (f, k) ↔ l = f.txt ++ k ∧ f.wf := by
  constructor
  · exact prs_sound _ _ _ _
  · rintro ⟨rfl, w⟩
    exact prs_full f w _ k (by simp)
theorem rdF_none {l : List UInt8} : rdF l = none ↔ ∀ (f : Fm) (k : List UInt8), l = f.txt ++ k → ¬ f.wf := by
  constructor
  · intro h f k e w
    rw [rdF_some.2 ⟨e, w⟩] at h
    cases h
  · intro h
    cases e : rdF l with
    | none => rfl
    | some p => exact absurd (rdF_some.1 e).2 (h _ _ (rdF_some.1 e).1)
/-- A fact about reading, a byte at a time. -/
theorem rdF_nil : rdF [] = none := rfl
theorem rdF_zero {c : UInt8} (h : plc c = some 0) (l : List UInt8) : rdF (c :: l) = some (.leaf c, l) := rdF_some.2 ⟨rfl, h⟩
theorem rdF_bad {c : UInt8} (h : plc c = none) (l : List UInt8) : rdF (c :: l) = none := by simp [rdF, prs, h]
theorem rdF_one {c : UInt8} (h : plc c = some 1) (l : List UInt8) : rdF (c :: l) = (rdF l).map fun p => (.one c p.1, p.2) := by
  cases e : rdF l with
  | none =>
    rw [Option.map_none, rdF_none]
    intro f k e2 w
    cases f <;> simp only [Fm.txt, Fm.wf, List.cons_append, List.cons.injEq] at e2 w
    all_goals obtain ⟨rfl, e2⟩ := e2
    all_goals simp [h] at w
    exact rdF_none.1 e _ k e2 w
  | some p =>
    obtain ⟨a, l1⟩ := p
    obtain ⟨rfl, w⟩ := rdF_some.1 e
    exact rdF_some.2 ⟨rfl, h, w⟩
theorem rdF_two {c : UInt8} (h : plc c = some 2) (l : List UInt8) : rdF (c :: l) = (rdF l).bind fun p => (rdF p.2).map fun q => (.two c p.1 q.1, q.2) := by
  cases e : rdF l with
  | none =>
    rw [Option.bind_none, rdF_none]
    intro f k e2 w
    cases f <;> simp only [Fm.txt, Fm.wf, List.cons_append, List.cons.injEq, List.append_assoc] at e2 w
    all_goals obtain ⟨rfl, e2⟩ := e2
    all_goals simp [h] at w
    exact rdF_none.1 e _ _ e2 w.1
  | some p =>
    obtain ⟨a, l1⟩ := p
    obtain ⟨rfl, wa⟩ := rdF_some.1 e
    rw [Option.bind_some]
    cases e3 : rdF l1 with
    | none =>
      rw [Option.map_none, rdF_none]
      intro f k e2 w
      cases f <;> simp only [Fm.txt, Fm.wf, List.cons_append, List.cons.injEq, List.append_assoc] at e2 w
      all_goals obtain ⟨rfl, e2⟩ := e2
      all_goals simp [h] at w
      have h1 := rdF_some.2 ⟨e2, w.1⟩
      rw [h1] at e
      cases e
      exact rdF_none.1 e3 _ _ rfl w.2
    | some q =>
      obtain ⟨b, l2⟩ := q
      obtain ⟨rfl, wb⟩ := rdF_some.1 e3
      exact rdF_some.2 ⟨by simp [Fm.txt], h, wa, wb⟩
theorem rdF_three {c : UInt8} (h : plc c = some 3) (l : List UInt8) : rdF (c :: l) = (rdF l).bind fun p => (rdF p.2).bind fun q => (rdF q.2).map fun r => (.three c p.1 q.1 r.1, r.2) := by
  cases e : rdF l with
  | none =>
    rw [Option.bind_none, rdF_none]
    intro f k e2 w
    cases f <;> simp only [Fm.txt, Fm.wf, List.cons_append, List.cons.injEq, List.append_assoc] at e2 w
    all_goals obtain ⟨rfl, e2⟩ := e2
    all_goals simp [h] at w
    exact rdF_none.1 e _ _ e2 w.1
  | some p =>
    obtain ⟨a, l1⟩ := p
    obtain ⟨rfl, wa⟩ := rdF_some.1 e
    rw [Option.bind_some]
    cases e3 : rdF l1 with
    | none =>
      rw [Option.bind_none, rdF_none]
      intro f k e2 w
      cases f <;> simp only [Fm.txt, Fm.wf, List.cons_append, List.cons.injEq, List.append_assoc] at e2 w
      all_goals obtain ⟨rfl, e2⟩ := e2
      all_goals simp [h] at w
      have h1 := rdF_some.2 ⟨e2, w.1⟩
      rw [h1] at e
      cases e
      exact rdF_none.1 e3 _ _ rfl w.2.1
    | some q =>
      obtain ⟨b, l2⟩ := q
      obtain ⟨rfl, wb⟩ := rdF_some.1 e3
      rw [Option.bind_some]
      cases e4 : rdF l2 with
      | none =>
        rw [Option.map_none, rdF_none]
        intro f k e2 w
        cases f <;> simp only [Fm.txt, Fm.wf, List.cons_append, List.cons.injEq, List.append_assoc] at e2 w
        all_goals obtain ⟨rfl, e2⟩ := e2
        all_goals simp [h] at w
        have h1 := rdF_some.2 ⟨e2, w.1⟩
        rw [h1] at e
        have e5 := (Prod.mk.inj (Option.some.inj e)).2
        have h2 := rdF_some.2 ⟨e5.symm, w.2.1⟩
        rw [h2] at e3
        have e6 := (Prod.mk.inj (Option.some.inj e3)).2
        exact rdF_none.1 e4 _ _ e6.symm w.2.2
      | some r =>
        obtain ⟨d, l3⟩ := r
        obtain ⟨rfl, wd⟩ := rdF_some.1 e4
        exact rdF_some.2 ⟨by simp [Fm.txt], h, wa, wb, wd⟩
end Go.Proofs.YtleighihfgabkaaGreatDoor

/- O2:
  Formulas in the model: places of bytes, the end of a formula, what is a formula. -/
namespace Go.Proofs.YtleighihfgabkaaGreatDoor
open Go.RowKit
set_option linter.unusedVariables false
set_option linter.unusedSimpArgs false

/-- The places, -1 for a byte that is none. -/
def plI (c : UInt8) : Int := match plc c with | some k => (k : Int) | none => -1
def plZ (z : Int) : Int := if z = 97 ∨ z = 98 ∨ z = 99 ∨ z = 100 ∨ z = 48 ∨ z = 49 then 0 else if z = 33 then 1 else if z = 38 ∨ z = 124 ∨ z = 94 then 2 else if z = 63 ∨ z = 77 then 3 else -1
theorem plI_all : ∀ k < 256, plI (UInt8.ofNat k) = plZ ((k : Nat) : Int) := by decide +kernel
theorem plI_is (c : UInt8) : plI c = plZ (c.toNat : Int) := by
  have h := plI_all c.toNat (UInt8.toNat_lt c)
  rwa [UInt8.ofNat_toNat] at h
set_option maxRecDepth 100000 in
set_option maxHeartbeats 4000000 in
theorem l05Places_any (c : UInt8) (w : World) :
    Calls Tryz.prog 94 #[.int .u8 (c.toNat : Int)] w fun e w' => e = .returned (.int .i64 (plI c)) ∧ w = w' := by
  rw [plI_is]
  generalize (c.toNat : Int) = z
  obtain ⟨p, hp⟩ : ∃ p, plZ z = p := ⟨_, rfl⟩
  rw [hp]
  have HP := Lib.hid hp
  clear hp
  go_enter Tryz.func94, Tryz.ntmps94
  go_wp2_with fail
  all_goals go_ret
  all_goals refine ⟨?_, rfl⟩
  all_goals rw [← HP.out]
  all_goals clear HP
  all_goals unfold plZ
  all_goals simp_all

theorem plc_le {c : UInt8} {k : Nat} (h : plc c = some k) : k ≤ 3 := by
  unfold plc at h
  split at h
  · cases h; decide
  · split at h
    · cases h; decide
    · split at h
      · cases h; decide
      · split at h
        · cases h; decide
        · cases h
theorem plI_some {c : UInt8} {k : Nat} (h : plc c = some k) : plI c = (k : Int) := by unfold plI; rw [h]
theorem plI_none {c : UInt8} (h : plc c = none) : plI c = -1 := by unfold plI; rw [h]
/-- Where j formulas end that begin at a place. -/
def rdK (s : ByteArray) : Nat → Nat → Option Nat
  | 0, a => some a
  | j + 1, a => match rdF (s.data.toList.drop a) with
    | some p => rdK s j (a + p.1.txt.length)
    | none => none
/-- Where the formula ends that begins at a place. -/
def endI (s : ByteArray) (a : Nat) : Int := match rdF (s.data.toList.drop a) with
  | some p => ((a + p.1.txt.length : Nat) : Int)
  | none => -1
def endK (o : Option Nat) : Int := match o with
  | some e => (e : Int)
  | none => -1
theorem drop_rest {l : List UInt8} {a : Nat} {f : Fm} {k : List UInt8} (h : l.drop a = f.txt ++ k) : k = l.drop (a + f.txt.length) := by
  rw [← List.drop_drop, h, List.drop_left]
theorem rdF_le {s : ByteArray} {a : Nat} {p : Fm × List UInt8} (h : rdF (s.data.toList.drop a) = some p) : a + p.1.txt.length ≤ s.size := by
  have h1 := (rdF_some.1 h).1
  have h2 := congrArg List.length h1
  have h3 := p.1.txt_pos
  rw [List.length_drop, List.length_append, Array.length_toList] at h2
  have : s.data.size = s.size := rfl
  omega
theorem endI_byte {s : ByteArray} {a : Nat} {c : UInt8} {K : Nat} (h : s.data.toList.drop a = c :: s.data.toList.drop (a + 1)) (hc : plc c = some K) : endI s a = endK (rdK s K (a + 1)) := by
  have hk := plc_le hc
  unfold endI
  rw [h]
  rcases (show K = 0 ∨ K = 1 ∨ K = 2 ∨ K = 3 by omega) with rfl | rfl | rfl | rfl
  · rw [rdF_zero hc]; rfl
  · rw [rdF_one hc]
    simp only [rdK]
    cases e : rdF (s.data.toList.drop (a + 1)) with
    | none => rfl
    | some p => simp only [Option.map_some, endK, Fm.txt, List.length_cons]; omega
  · rw [rdF_two hc]
    simp only [rdK]
    cases e : rdF (s.data.toList.drop (a + 1)) with
    | none => rfl
    | some p =>
      have e1 := drop_rest (rdF_some.1 e).1
      simp only [Option.bind_some]
      rw [← e1]
      cases e2 : rdF p.2 with
      | none => rfl
      | some q => simp only [Option.map_some, endK, Fm.txt, List.length_cons, List.length_append]; omega
  · rw [rdF_three hc]
    simp only [rdK]
    cases e : rdF (s.data.toList.drop (a + 1)) with
    | none => rfl
    | some p =>
      have e1 := drop_rest (rdF_some.1 e).1
      simp only [Option.bind_some]
      rw [← e1]
      cases e2 : rdF p.2 with
      | none => rfl
      | some q =>
        have e3 := drop_rest (show s.data.toList.drop (a + 1 + p.1.txt.length) = q.1.txt ++ q.2 by rw [← e1]; exact (rdF_some.1 e2).1)
        simp only [Option.bind_some]
        rw [← e3]
        cases e4 : rdF q.2 with
        | none => rfl
        | some r => simp only [Option.map_some, endK, Fm.txt, List.length_cons, List.length_append]; omega
theorem drop_byte (s : ByteArray) (a : Nat) (h : a < s.size) : s.data.toList.drop a = s[a] :: s.data.toList.drop (a + 1) := by
  rw [List.drop_eq_getElem_cons (by rw [Array.length_toList]; exact h)]
  rfl
set_option maxRecDepth 100000 in
set_option maxHeartbeats 8000000 in
theorem l05End_any (s : ByteArray) (hs : s.size ≤ 1048576) : ∀ (k a : Nat), a ≤ s.size → s.size - a ≤ k → ∀ w,
    Calls Tryz.prog 92 #[.string s, .int .i64 (a : Int)] w fun e w' => e = .returned (.int .i64 (endI s a)) ∧ w = w' := by
  intro k
  induction k with
  | zero =>
    intro a ha hk w
    obtain rfl : a = s.size := by omega
    have e : endI s s.size = -1 := by
      unfold endI
      rw [List.drop_eq_nil_of_le (by rw [Array.length_toList]; exact Nat.le_refl _)]
      rfl
    rw [e]
    go_enter Tryz.func92, Tryz.ntmps92
    go_wp2_with fail
    go_ret
    exact ⟨rfl, rfl⟩
  | succ k ih =>
    intro a ha hk w
    by_cases hlt : a < s.size
    · have hb := drop_byte s a hlt
      have eN : IntKind.i64.wrap ((a : Int) + 1) = ((a + 1 : Nat) : Int) := by rw [wrap64_small (by omega) (by omega)]; omega
      cases hc : plc s[a] with
      | none =>
        have e : endI s a = -1 := by unfold endI; rw [hb, rdF_bad hc]
        have e2 := plI_none hc
        rw [e]
        clear hb hc e
        go_enter Tryz.func92, Tryz.ntmps92
        go_wp2_with (go_at_call 94; refine (l05Places_any _ _).mono ?_; rintro e w' ⟨rfl, rfl⟩)
        go_ret
        exact ⟨rfl, rfl⟩
      | some K =>
        have hK := plc_le hc
        have e2 := plI_some hc
        rw [endI_byte hb hc]
        obtain ⟨X, hX⟩ : ∃ X, rdK s K (a + 1) = X := ⟨_, rfl⟩
        rw [hX]
        have HX := Lib.hid hX
        clear hb hc hX
        go_enter Tryz.func92, Tryz.ntmps92
        go_wp2_with (go_at_call 94; refine (l05Places_any _ _).mono ?_; rintro e w' ⟨rfl, rfl⟩)
        go_loop [1, 5] (fun x y => ∃ (j a' : Nat), y = .int .i64 j ∧ x = .int .i64 a' ∧ (j ≤ 3 ∧ a < a' ∧ a' ≤ s.size) ∧ Hid (rdK s j a' = X)) (fun _ y => (intOf y).toNat)
        case atStart => exact ⟨K, a + 1, rfl, rfl, ⟨hK, by omega, by omega⟩, HX⟩
        case round =>
          obtain ⟨j, a', rfl, rfl, ⟨hj, ha1, ha2⟩, HJ⟩ := hrel
          cases j with
          | zero =>
            have E3 := Lib.hid (show X = some a' from HJ.out.symm)
            clear HJ HX
            go_wp2_with fail
            go_ret
            exact ⟨by (rw [E3.out]) <;> rfl, rfl⟩
          | succ j =>
            have I := Lib.hid (fun w => ih a' (by omega) (by omega) w)
            have hd : decide ((0 : Int) < ((j + 1 : Nat) : Int)) = true := by simp
            have eJ : IntKind.i64.wrap (((j + 1 : Nat) : Int) - 1) = (j : Int) := by rw [wrap64_small (by omega) (by omega)]; omega
            cases hr : rdF (s.data.toList.drop a') with
            | none =>
              have e3 : X = none := by
                have h := HJ.out
                unfold rdK at h
                rw [hr] at h
                exact h.symm
              have e4 : endI s a' = -1 := by unfold endI; rw [hr]
              rw [e4] at I
              clear HJ HX hr e4
              have E3 := Lib.hid e3
              clear e3
              go_wp2_with (go_at_call 92; refine (I.out _).mono ?_; rintro e w' ⟨rfl, rfl⟩)
              go_ret
              exact ⟨by (rw [E3.out]) <;> rfl, rfl⟩
            | some p =>
              have e3 : rdK s j (a' + p.1.txt.length) = X := by
                have h := HJ.out
                unfold rdK at h
                rw [hr] at h
                exact h
              have e4 : endI s a' = ((a' + p.1.txt.length : Nat) : Int) := by unfold endI; rw [hr]
              have hle := rdF_le hr
              rw [e4] at I
              obtain ⟨a2, ha2'⟩ : ∃ a2, a' + p.1.txt.length = a2 := ⟨_, rfl⟩
              rw [ha2'] at I e3 hle
              have h5 : a < a2 := by omega
              have E3 := Lib.hid e3
              clear e3 HJ HX hr e4 ha2'
              go_wp2_with (go_at_call 92; refine (I.out _).mono ?_; rintro e w' ⟨rfl, rfl⟩)
              go_round
              case rel => exact ⟨j, a2, rfl, rfl, ⟨by omega, h5, hle⟩, E3⟩
              case measure => simp [intOf]
    · obtain rfl : a = s.size := by omega
      have e : endI s s.size = -1 := by
        unfold endI
        rw [List.drop_eq_nil_of_le (by rw [Array.length_toList]; exact Nat.le_refl _)]
        rfl
      rw [e]
      go_enter Tryz.func92, Tryz.ntmps92
      go_wp2_with fail
      go_ret
      exact ⟨rfl, rfl⟩
end Go.Proofs.YtleighihfgabkaaGreatDoor

/- O3:
  Formulas in the model: what is a formula, sizes, parts; lists of texts of the call's own. -/
namespace Go.Proofs.YtleighihfgabkaaGreatDoor
open Go.RowKit
set_option linter.unusedVariables false
set_option linter.unusedSimpArgs false

/-- Is a text a formula? -/
def isFm (s : ByteArray) : Bool := decide (1 ≤ s.size) && (decide (s.size ≤ 60) && (endI s 0 == (s.size : Int)))
theorem isFm_iff {s : ByteArray} : isFm s = true ↔ s.size ≤ 60 ∧ ∃ f : Fm, f.wf ∧ s.data.toList = f.txt := by
  have hl : s.data.toList.length = s.size := Array.length_toList
  unfold isFm endI
  simp only [Bool.and_eq_true, decide_eq_true_eq, beq_iff_eq, List.drop_zero, Nat.zero_add]
  constructor
  · rintro ⟨h1, h2, h3⟩
    refine ⟨h2, ?_⟩
    cases e : rdF s.data.toList with
    | none =>
      rw [e] at h3
      have h5 : (-1 : Int) = (s.size : Int) := h3
      omega
    | some p =>
      rw [e] at h3
      obtain ⟨e1, w⟩ := rdF_some.1 (show rdF s.data.toList = some (p.1, p.2) from e)
      have h4 := congrArg List.length e1
      rw [List.length_append, hl] at h4
      have h5 : (p.1.txt.length : Int) = (s.size : Int) := h3
      have h6 : p.2 = [] := List.eq_nil_of_length_eq_zero (by omega)
      exact ⟨p.1, w, by rw [e1, h6, List.append_nil]⟩
  · rintro ⟨h2, f, w, e⟩
    have e1 : rdF s.data.toList = some (f, []) := rdF_some.2 ⟨by rw [e, List.append_nil], w⟩
    have hp := f.txt_pos
    have h4 := congrArg List.length e
    rw [hl] at h4
    rw [e1]
    exact ⟨by omega, h2, by show (f.txt.length : Int) = _; omega⟩
set_option maxRecDepth 100000 in
set_option maxHeartbeats 4000000 in
theorem l05Is_is {s : ByteArray} (hs : s.size ≤ 1048576) {b : Bool} (hb : isFm s = b) (w : World) :
    Calls Tryz.prog 50 #[.string s] w fun e w' => e = .returned (.bool b) ∧ w = w' := by
  unfold isFm at hb
  have HB := Lib.hid hb
  clear hb
  by_cases h1 : 1 ≤ s.size
  · by_cases h2 : s.size ≤ 60
    · have c1 : decide ((1 : Int) ≤ (s.size : Int)) = true := by simp; omega
      have c2 : decide ((s.size : Int) ≤ 60) = true := by simp; omega
      have E := Lib.hid (fun w => l05End_any s hs s.size 0 (by omega) (by omega) w)
      obtain ⟨x, hx⟩ : ∃ x, endI s 0 = x := ⟨_, rfl⟩
      rw [hx] at E
      have HX := Lib.hid hx
      clear hx
      go_enter Tryz.func50, Tryz.ntmps50
      go_wp2_with (go_at_call 92; refine (E.out _).mono ?_; rintro e w' ⟨rfl, rfl⟩)
      go_ret
      have h := HB.out
      rw [decide_eq_true h1, decide_eq_true h2, HX.out] at h
      exact ⟨by rw [← h]; rfl, rfl⟩
    · have c1 : decide ((1 : Int) ≤ (s.size : Int)) = true := by simp; omega
      have c2 : decide ((s.size : Int) ≤ 60) = false := by simp; omega
      go_enter Tryz.func50, Tryz.ntmps50
      go_wp2_with fail
      go_ret
      have h := HB.out
      rw [decide_eq_false h2] at h
      exact ⟨by rw [← h]; simp, rfl⟩
  · have c1 : decide ((1 : Int) ≤ (s.size : Int)) = false := by simp; omega
    go_enter Tryz.func50, Tryz.ntmps50
    go_wp2_with fail
    go_ret
    have h := HB.out
    rw [decide_eq_false h1] at h
    exact ⟨by rw [← h]; rfl, rfl⟩
/-- The gates among the first bytes. -/
def gts (l : List UInt8) : Nat := l.countP fun c => decide (0 < plI c)
theorem gts_take (s : ByteArray) (k : Nat) (h : k < s.size) : gts (s.data.toList.take (k + 1)) = gts (s.data.toList.take k) + if 0 < plI s[k] then 1 else 0 := by
  unfold gts
  rw [List.take_succ_eq_append_getElem (by rw [Array.length_toList]; exact h), List.countP_append]
  congr 1
  show List.countP _ [s[k]] = _
  by_cases hp : 0 < plI s[k]
  · simp [hp]
  · simp [hp]
theorem gts_le (l : List UInt8) : gts l ≤ l.length := List.countP_le_length
set_option maxRecDepth 100000 in
set_option maxHeartbeats 4000000 in
theorem l05Size_any (s : ByteArray) (hs : s.size ≤ 1048576) (w : World) :
    Calls Tryz.prog 75 #[.string s] w fun e w' => e = .returned (.int .i64 (gts s.data.toList : Int)) ∧ w = w' := by
  have hl : s.data.toList.length ≤ s.size := Nat.le_of_eq Array.length_toList
  go_enter Tryz.func75, Tryz.ntmps75
  go_wp2_with fail
  go_loop [3, 4] (fun c i => ∃ k : Nat, k ≤ s.size ∧ i = .int .i64 k ∧ c = .int .i64 (gts (s.data.toList.take k) : Int)) (fun _ i => s.size - (intOf i).toNat)
  case atStart => exact ⟨0, Nat.zero_le _, rfl, rfl⟩
  case round =>
    obtain ⟨k, hk, rfl, rfl⟩ := hrel
    by_cases hlt : k < s.size
    · have G := Lib.hid (gts_take s k hlt)
      have hg : gts (s.data.toList.take k) ≤ k := Nat.le_trans (gts_le _) (List.length_take_le _ _)
      by_cases hp : 0 < plI s[k]
      · have hd : decide (0 < plI s[k]) = true := by simpa using hp
        go_wp2_with (go_at_call 94; refine (l05Places_any _ _).mono ?_; rintro e w' ⟨rfl, rfl⟩)
        go_round
        case rel => exact ⟨k + 1, by omega, by go_num, by rw [G.out, if_pos hp]; go_num⟩
        case measure => simp [intOf]; omega
      · have hd : decide (0 < plI s[k]) = false := by simpa using hp
        go_wp2_with (go_at_call 94; refine (l05Places_any _ _).mono ?_; rintro e w' ⟨rfl, rfl⟩)
        go_round
        case rel => exact ⟨k + 1, by omega, by go_num, by rw [G.out, if_neg (by omega)]; rfl⟩
        case measure => simp [intOf]; omega
    · obtain rfl : k = s.size := by omega
      have e : s.data.toList.take s.size = s.data.toList := List.take_of_length_le hl
      rw [e]
      clear e
      go_wp2_with fail
      go_ret
      exact ⟨rfl, rfl⟩
/-- A list of texts of the call's own. -/
def strs (xs : List ByteArray) : List Value := xs.map Value.string
def OwnsS (W : World) (base : Nat) (s : Value) (xs : List ByteArray) : Prop := W.ownsRow base 9 1 s xs.length (strs xs)
theorem OwnsS.below {W W' : World} {base : Nat} {s : Value} {xs : List ByteArray} (h : OwnsS W base s xs) (hb : Below W.heap.size W W') : OwnsS W' base s xs := by
  obtain ⟨h1, h2 | ⟨g, cap, cur, e1, e2, e3, r⟩⟩ := h
  · exact ⟨h1, .inl h2⟩
  · exact ⟨h1, .inr ⟨g, cap, cur, e1, e2, (hb.block g (Array.getElem?_eq_some_iff.1 e3).1).trans e3, r⟩⟩
theorem OwnsS.mono {W : World} {b1 b2 : Nat} {s : Value} {xs : List ByteArray} (h : OwnsS W b1 s xs) (hb : b2 ≤ b1) : OwnsS W b2 s xs := by
  obtain ⟨h1, h2 | ⟨g, cap, cur, e1, e2, e3, r⟩⟩ := h
  · exact ⟨h1, .inl h2⟩
  · exact ⟨h1, .inr ⟨g, cap, cur, e1, Nat.le_trans hb e2, e3, r⟩⟩
theorem OwnsS.form {W : World} {base : Nat} {s : Value} {xs : List ByteArray} (h : OwnsS W base s xs) : ∃ a cap, s = .slice a xs.length cap ∧ (0 < xs.length → ∃ g, a = some ⟨g, 0, none⟩ ∧ g < W.heap.size ∧ ∀ j (hj : j < xs.length), W.cell? ⟨g, j, none⟩ = some (.string xs[j])) := by
  rcases h.2 with ⟨e, h0⟩ | ⟨g, cap, cur, rfl, hb, hg, _⟩
  · exact ⟨none, 0, by rw [e, h0], fun hp => by omega⟩
  · refine ⟨_, cap, rfl, fun hp => ⟨g, rfl, (Array.getElem?_eq_some_iff.1 hg).1, fun j hj => ?_⟩⟩
    have := World.ownsRow.cellAt h j (by omega)
    rw [this]
    simp [strs, hj]
theorem strs_snoc (xs : List ByteArray) (x : ByteArray) : strs (xs ++ [x]) = strs xs ++ [.string x] := by simp [strs]
theorem infoStr : (Tryz.prog.info? 9).map (fun i => (i.zero, i.size, i.bytes)) = some (some (.string ⟨#[]⟩), 1, 16) := by kernel_rfl
theorem one_cell_str (x : ByteArray) : ∀ u ∈ [Value.string x], u.oneCell' = true := by intro u hu; simp at hu; subst hu; rfl
/-- The formulas at the places. -/
def Fm.kids : Fm → List Fm
  | .leaf _ => []
  | .one _ a => [a]
  | .two _ a b => [a, b]
  | .three _ a b d => [a, b, d]
def Fm.head : Fm → UInt8
  | .leaf c => c
  | .one c _ => c
  | .two c _ _ => c
  | .three c _ _ _ => c
theorem Fm.txt_kids (f : Fm) : f.txt = f.head :: (f.kids.map Fm.txt).flatten := by cases f <;> simp [Fm.txt, Fm.head, Fm.kids]
theorem Fm.kids_wf {f : Fm} (h : f.wf) : ∀ g ∈ f.kids, g.wf := by
  cases f <;> simp [Fm.kids, Fm.wf] at *
  · exact h.2
  · exact ⟨h.2.1, h.2.2⟩
  · exact ⟨h.2.1, h.2.2.1, h.2.2.2⟩
theorem Fm.kids_lt {f : Fm} : ∀ g ∈ f.kids, g.txt.length < f.txt.length := by
  cases f <;> simp [Fm.kids, Fm.txt] <;> omega
/-- A text as bytes. -/
def Fm.bytes (f : Fm) : ByteArray := ⟨f.txt.toArray⟩
theorem Fm.bytes_list (f : Fm) : f.bytes.data.toList = f.txt := by simp [Fm.bytes]
theorem Fm.bytes_size (f : Fm) : f.bytes.size = f.txt.length := by show f.txt.toArray.size = _; simp
theorem bytes_of {s : ByteArray} {f : Fm} (h : s.data.toList = f.txt) : s = f.bytes := by
  apply ByteArray.ext
  unfold Fm.bytes
  rw [← h]
/-- Where the kid j begins. -/
def Fm.pos (f : Fm) (j : Nat) : Nat := 1 + ((f.kids.take j).map Fm.txt).flatten.length
theorem Fm.pos_drop (f : Fm) (j : Nat) : f.txt.drop (f.pos j) = ((f.kids.drop j).map Fm.txt).flatten := by
  rw [f.txt_kids]
  unfold Fm.pos
  rw [Nat.add_comm, List.drop_succ_cons]
  conv => lhs; arg 2; rw [← List.take_append_drop j f.kids]
  rw [List.map_append, List.flatten_append, List.drop_left]
theorem Fm.pos_succ (f : Fm) (j : Nat) (h : j < f.kids.length) : f.pos (j + 1) = f.pos j + (f.kids[j]).txt.length := by
  unfold Fm.pos
  rw [List.take_succ_eq_append_getElem h, List.map_append, List.flatten_append, List.length_append, ← Nat.add_assoc]
  simp only [List.map_cons, List.map_nil, List.flatten_cons, List.flatten_nil, List.append_nil]
theorem Fm.pos_all (f : Fm) : f.pos f.kids.length = f.txt.length := by
  unfold Fm.pos
  rw [List.take_length, f.txt_kids, List.length_cons]
  omega
theorem Fm.pos_le (f : Fm) (j : Nat) (h : j < f.kids.length) : f.pos j + (f.kids[j]).txt.length ≤ f.txt.length := by
  have h1 := f.pos_drop j
  rw [List.drop_eq_getElem_cons h, List.map_cons, List.flatten_cons] at h1
  have h2 := congrArg List.length h1
  rw [List.length_drop, List.length_append] at h2
  have h3 := (f.kids[j]).txt_pos
  omega
theorem Fm.pos_end {f : Fm} (w : f.wf) (j : Nat) (h : j < f.kids.length) : endI f.bytes (f.pos j) = ((f.pos (j + 1) : Nat) : Int) := by
  unfold endI
  rw [f.bytes_list, f.pos_drop, List.drop_eq_getElem_cons h, List.map_cons, List.flatten_cons, rdF_some.2 ⟨rfl, Fm.kids_wf w _ (List.getElem_mem h)⟩, f.pos_succ j h]
theorem Fm.pos_part (f : Fm) (j : Nat) (h : j < f.kids.length) : f.bytes.extract (f.pos j) (f.pos (j + 1)) = (f.kids[j]).bytes := by
  apply bytes_of
  have e : (f.bytes.extract (f.pos j) (f.pos (j + 1))).data.toList = (f.bytes.data.toList.drop (f.pos j)).take (f.pos (j + 1) - f.pos j) := by
    rw [ByteArray.data_extract, Array.toList_extract]
  rw [e, f.bytes_list, f.pos_drop, List.drop_eq_getElem_cons h, List.map_cons, List.flatten_cons, f.pos_succ j h, Nat.add_sub_cancel_left, List.take_left]
/-- The texts of the kids. -/
def Fm.partsTo (f : Fm) (j : Nat) : List ByteArray := (f.kids.take j).map Fm.bytes
theorem Fm.partsTo_succ (f : Fm) (j : Nat) (h : j < f.kids.length) : f.partsTo (j + 1) = f.partsTo j ++ [(f.kids[j]).bytes] := by
  unfold Fm.partsTo
  rw [List.take_succ_eq_append_getElem h, List.map_append]
  rfl
theorem Fm.partsTo_len (f : Fm) (j : Nat) (h : j ≤ f.kids.length) : (f.partsTo j).length = j := by simp [Fm.partsTo, h]
theorem Fm.kids_le (f : Fm) : f.kids.length ≤ 3 := by cases f <;> simp [Fm.kids]
def PartsPost (f : Fm) (w : World) (e : Ending) (w' : World) : Prop := ∃ s, e = .returned s ∧ OwnsS w' w.heap.size s (f.kids.map Fm.bytes) ∧ Below w.heap.size w w'
set_option maxRecDepth 100000 in
set_option maxHeartbeats 8000000 in
theorem l05Parts_any {f : Fm} (wf : f.wf) (h60 : f.txt.length ≤ 1048576) (w : World) :
    Calls Tryz.prog 73 #[.string f.bytes] w (PartsPost f w) := by
  obtain ⟨i0, hi, hz0, hz1, hz2⟩ := info_parts infoStr
  have hsz := Lib.hid f.bytes_size
  have hb0 : Below w.heap.size w (w.alloc (.cells #[] 9)) := bnew _ _
  have OW := Lib.hid (show OwnsS (w.alloc (.cells #[] 9)) w.heap.size (.slice (some ⟨w.heap.size, 0, none⟩) 0 0) (f.partsTo 0) from World.ownsRow_lit w #[] 0 (Nat.le_refl _) (by decide) rfl)
  have HB0 := Lib.hid hb0
  have hk3 := f.kids_le
  have hsz0 : w.heap.size ≤ (w.alloc (.cells #[] 9)).heap.size := hb0.size
  clear hb0
  go_enter Tryz.func73, Tryz.ntmps73
  go_wp2_with fail
  go_loopw [3, 4] (fun s i wr => ∃ j : Nat, j ≤ f.kids.length ∧ i = .int .i64 (f.pos j : Nat) ∧ Hid (OwnsS wr w.heap.size s (f.partsTo j)) ∧ Below w.heap.size (w.alloc (.cells #[] 9)) wr) (fun _ i _ => f.txt.length - (intOf i).toNat)
  case atStart => exact ⟨0, Nat.zero_le _, by simp [Fm.pos], OW, Below.refl _ _⟩
  case round =>
    clear OW
    obtain ⟨j, hj, rfl, O, hN⟩ := hrel
    have hszr : w.heap.size ≤ wr.heap.size := Nat.le_trans hsz0 hN.size
    by_cases hlt : j < f.kids.length
    · have p1 := f.pos_le j hlt
      have p2 := f.pos_succ j hlt
      have p3 := (f.kids[j]).txt_pos
      have EP := Lib.hid (f.pos_part j hlt)
      have ES := Lib.hid (f.partsTo_succ j hlt)
      have E := Lib.hid (fun w => l05End_any f.bytes (by rw [hsz.out]; exact h60) f.bytes.size (f.pos j) (by rw [hsz.out]; omega) (by omega) w)
      rw [Fm.pos_end wf j hlt] at E
      obtain ⟨p, hp⟩ : ∃ p, f.pos j = p := ⟨_, rfl⟩
      obtain ⟨q, hq⟩ : ∃ q, f.pos (j + 1) = q := ⟨_, rfl⟩
      rw [hp] at p1 p2 EP E
      rw [hq] at p2 EP E
      have HQ := Lib.hid hq
      rw [hp]
      have hz : f.bytes.size = f.txt.length := hsz.out
      have hlt2 : decide ((p : Int) < (f.bytes.size : Int)) = true := by simp; omega
      have hpq : p < q := by omega
      have hqz : q ≤ f.bytes.size := by omega
      have PL := Lib.hid (f.partsTo_len j (by omega))
      have HM := Lib.hid (show f.txt.length - q < f.txt.length - p by omega)
      clear hp hq p1 p2 p3 hz
      have hown5 := O.out
      unfold OwnsS at hown5
      rw [PL.out] at hown5
      have HN := Lib.hid hN
      clear hN O
      go_wp2_with (first
        | (go_at_call 92; refine (E.out _).mono ?_; rintro e w' ⟨rfl, rfl⟩)
        | (at_builtin; refine wpList_append_own _ rfl _ _ 34 rfl w.heap.size 9 i0 (.string ⟨#[]⟩) 1 16 Tryz.underlying34 hi hz0 hz1 hz2 rfl (by decide) _ _ _ rfl (hown5.alloc _) ⟨wr.heap.size, 0, none⟩ 1 1 [.string (f.bytes.extract p q)] rfl rfl (cell_one_new _ _ _) (one_cell_str _) (by unfold maxLen; omega) (by omega) (by simp; omega) ?_))
      intro v' w9 hown' hgrow _
      have N9 := Lib.hid ((HN.out.alloc hszr (.cells #[.string (f.bytes.extract p q)] 9)).grown hgrow (by simp; omega) (fun j e => (hown5.lt j e).1))
      have O9 := Lib.hid (show OwnsS w9 w.heap.size v' (f.partsTo (j + 1)) by
        rw [ES.out, ← EP.out]
        unfold OwnsS
        rw [strs_snoc, List.length_append, PL.out]
        exact hown')
      clear hgrow hown5 hown'
      go_wp2
      go_roundw
      case rel => exact ⟨j + 1, by omega, by rw [HQ.out], O9, N9.out⟩
      case measure => simp [intOf]; have := HM.out; omega
    · obtain rfl : j = f.kids.length := by omega
      have hpz := f.pos_all
      have hz : f.bytes.size = f.txt.length := hsz.out
      have E1 := Lib.hid (show f.partsTo f.kids.length = f.kids.map Fm.bytes by unfold Fm.partsTo; rw [List.take_length])
      have hlt2 : decide (f.pos f.kids.length < f.bytes.size) = false := by simp; omega
      have HF := Lib.hid (show Below w.heap.size w wr from HB0.out.trans hN)
      clear hpz hz hN
      generalize f.pos f.kids.length = pp at *
      go_wp2_with fail
      go_ret
      exact ⟨_, rfl, by rw [← E1.out]; exact O.out, HF.out⟩
end Go.Proofs.YtleighihfgabkaaGreatDoor

/- O4:
  Formulas in the model: depths; IsFormula, SizeOfFormula, DepthOfFormula, PartsOfFormula. -/
namespace Go.Proofs.YtleighihfgabkaaGreatDoor
open Go.RowKit
set_option linter.unusedVariables false
set_option linter.unusedSimpArgs false

def Fm.depth : Fm → Nat
  | .leaf _ => 0
  | .one _ a => a.depth + 1
  | .two _ a b => max (a.depth + 1) (b.depth + 1)
  | .three _ a b d => max (max (a.depth + 1) (b.depth + 1)) (d.depth + 1)
/-- The depth as far as the first j kids go. -/
def Fm.dpTo (f : Fm) (j : Nat) : Nat := ((f.kids.take j).map fun g => g.depth + 1).foldl max 0
theorem Fm.dpTo_succ (f : Fm) (j : Nat) (h : j < f.kids.length) : f.dpTo (j + 1) = max (f.dpTo j) (f.kids[j].depth + 1) := by
  unfold Fm.dpTo
  rw [List.take_succ_eq_append_getElem h, List.map_append, List.foldl_append]
  rfl
theorem Fm.dpTo_all (f : Fm) : f.dpTo f.kids.length = f.depth := by
  unfold Fm.dpTo
  rw [List.take_length]
  cases f <;> simp [Fm.kids, Fm.depth, List.foldl]
theorem Fm.depth_lt (f : Fm) : f.depth < f.txt.length := by
  induction f with
  | leaf c => simp [Fm.depth, Fm.txt]
  | one c a ih => simp only [Fm.depth, Fm.txt, List.length_cons]; omega
  | two c a b h1 h2 => simp only [Fm.depth, Fm.txt, List.length_cons, List.length_append]; omega
  | three c a b d h1 h2 h3 => simp only [Fm.depth, Fm.txt, List.length_cons, List.length_append]; omega
theorem Fm.dpTo_le (f : Fm) (j : Nat) : j ≤ f.kids.length → f.dpTo j ≤ f.txt.length := by
  induction j with
  | zero => intro _; simp [Fm.dpTo]
  | succ j ih =>
    intro h
    have h1 := ih (by omega)
    have h2 := (f.kids[j]).depth_lt
    have h3 := Fm.kids_lt (f := f) _ (List.getElem_mem (show j < f.kids.length by omega))
    rw [f.dpTo_succ j (by omega)]
    omega
set_option maxRecDepth 100000 in
set_option maxHeartbeats 8000000 in
theorem l05Depth_any : ∀ (n : Nat) (f : Fm), f.wf → f.txt.length ≤ n → n ≤ 1048576 → ∀ w,
    Calls Tryz.prog 76 #[.string f.bytes] w fun e w' => e = .returned (.int .i64 (f.depth : Int)) ∧ Below w.heap.size w w' := by
  intro n
  induction n with
  | zero => intro f _ h; have := f.txt_pos; omega
  | succ n ih =>
    intro f wf hf hn w
    have PP := Lib.hid (l05Parts_any wf (by omega) w)
    go_enter Tryz.func76, Tryz.ntmps76
    go_wp2_with fail
    refine PP.out.mono ?_
    rintro e w2 ⟨s, rfl, ho, hb⟩
    obtain ⟨a, cap, hs, hcell⟩ := ho.form
    rw [List.length_map] at hs
    subst hs
    have HB := Lib.hid hb
    have HC := Lib.hid hcell
    have hk3 := f.kids_le
    clear PP ho hb hcell
    go_wp2_with fail
    go_loopw [4, 5] (fun m i wr => ∃ j : Nat, j ≤ f.kids.length ∧ i = .int .i64 j ∧ m = .int .i64 (f.dpTo j : Int) ∧ Below w2.heap.size w2 wr) (fun _ i _ => f.kids.length - (intOf i).toNat)
    case atStart => exact ⟨0, Nat.zero_le _, rfl, rfl, Below.refl _ _⟩
    case round =>
      obtain ⟨j, hj, rfl, rfl, hN⟩ := hrel
      by_cases hlt : j < f.kids.length
      · obtain ⟨g, rfl, hg, hc⟩ := HC.out (by rw [List.length_map]; omega)
        have d1 := (hN.cell (p := ⟨g, j, none⟩) hg).trans (hc j (by simpa using hlt))
        rw [List.getElem_map] at d1
        have HN := Lib.hid hN
        have hm := List.getElem_mem hlt
        have I := Lib.hid (ih (f.kids[j]) (Fm.kids_wf wf _ hm) (by have := Fm.kids_lt (f := f) _ hm; omega) (by omega))
        have ES := Lib.hid (f.dpTo_succ j hlt)
        have b1 := f.dpTo_le j hj
        have b2 := (f.kids[j]).depth_lt
        have b3 := Fm.kids_lt (f := f) _ hm
        have hsz : w2.heap.size ≤ wr.heap.size := hN.size
        generalize hd : f.kids[j].depth = d at *
        have eD : IntKind.i64.wrap ((d : Int) + 1) = ((d + 1 : Nat) : Int) := by rw [wrap64_small (by omega) (by omega)]; omega
        clear hN hc hm hd b2
        go_wp2_with (go_at_call 76; refine (I.out _).mono ?_; rintro e w5 ⟨rfl, hb5⟩)
        have N5 := Lib.hid (HN.out.trans (hb5.mono hsz))
        clear hb5
        all_goals go_roundw
        case rel => exact ⟨j + 1, by omega, by go_num, by rw [ES.out]; congr 1; omega, N5.out⟩
        case measure => simp [intOf]; omega
      · obtain rfl : j = f.kids.length := by omega
        have HF := Lib.hid (show Below w.heap.size w wr from bthen HB.out hN)
        have e := f.dpTo_all
        rw [e]
        clear e hN
        go_wp2_with fail
        go_ret
        exact ⟨rfl, HF.out⟩
end Go.Proofs.YtleighihfgabkaaGreatDoor

/- O5:
  Formulas in the model: IsFormula, SizeOfFormula, DepthOfFormula, PartsOfFormula. -/
namespace Go.Proofs.YtleighihfgabkaaGreatDoor
open Go.RowKit
set_option linter.unusedVariables false
set_option linter.unusedSimpArgs false

/-- A text is no formula, or one of a tree. -/
theorem fm_cases {s : ByteArray} (h : isFm s = true) : ∃ f : Fm, f.wf ∧ f.txt.length ≤ 60 ∧ s = f.bytes := by
  obtain ⟨h1, f, w, e⟩ := isFm_iff.1 h
  refine ⟨f, w, ?_, bytes_of e⟩
  have := congrArg List.length e
  rw [Array.length_toList] at this
  have h2 : s.data.size = s.size := rfl
  omega
theorem fm_yes {f : Fm} (w : f.wf) (h : f.txt.length ≤ 60) : isFm f.bytes = true := isFm_iff.2 ⟨by rw [f.bytes_size]; exact h, f, w, f.bytes_list⟩
set_option maxRecDepth 100000 in
set_option maxHeartbeats 2000000 in
theorem specIsFormula_is {s : ByteArray} (hs : s.size ≤ 1048576) {b : Bool} (hb : isFm s = b) (w : World) :
    Calls Tryz.prog 10 #[.string s] w fun e w' => e = .returned (.bool b) ∧ w = w' := by
  have H := Lib.hid (l05Is_is hs hb)
  clear hb
  go_enter Tryz.func10, Tryz.ntmps10
  go_wp2_with (go_at_call 50; refine (H.out _).mono ?_; rintro e w' ⟨rfl, rfl⟩)
  go_ret
  exact ⟨rfl, rfl⟩
set_option maxRecDepth 100000 in
set_option maxHeartbeats 2000000 in
theorem specSizeOfFormula_no {s : ByteArray} (hs : s.size ≤ 1048576) (h : isFm s = false) (w : World) :
    Calls Tryz.prog 27 #[.string s] w fun e w' => e = .returned (.tuple #[.int .i64 0, .int .i64 6]) ∧ Below w.heap.size w w' := by
  have H := Lib.hid (l05Is_is hs h)
  clear h
  go_enter Tryz.func27, Tryz.ntmps27
  go_wp2_with (go_at_call 50; refine (H.out _).mono ?_; rintro e w' ⟨rfl, rfl⟩)
  go_ret2
  exact ⟨rfl, Below.refl _ _⟩
set_option maxRecDepth 100000 in
set_option maxHeartbeats 2000000 in
theorem specSizeOfFormula_yes {f : Fm} (wf : f.wf) (h : f.txt.length ≤ 60) (w : World) :
    Calls Tryz.prog 27 #[.string f.bytes] w fun e w' => e = .returned (.tuple #[.int .i64 (gts f.txt : Int), .int .i64 0]) ∧ Below w.heap.size w w' := by
  have H := Lib.hid (l05Is_is (by rw [f.bytes_size]; omega) (fm_yes wf h))
  have S := Lib.hid (l05Size_any f.bytes (by rw [f.bytes_size]; omega))
  rw [f.bytes_list] at S
  go_enter Tryz.func27, Tryz.ntmps27
  go_wp2_with (first
    | (go_at_call 50; refine (H.out _).mono ?_; rintro e w' ⟨rfl, rfl⟩)
    | (go_at_call 75; refine (S.out _).mono ?_; rintro e w' ⟨rfl, rfl⟩))
  go_ret2
  exact ⟨rfl, Below.refl _ _⟩
set_option maxRecDepth 100000 in
set_option maxHeartbeats 2000000 in
theorem specDepthOfFormula_no {s : ByteArray} (hs : s.size ≤ 1048576) (h : isFm s = false) (w : World) :
    Calls Tryz.prog 28 #[.string s] w fun e w' => e = .returned (.tuple #[.int .i64 0, .int .i64 6]) ∧ Below w.heap.size w w' := by
  have H := Lib.hid (l05Is_is hs h)
  clear h
  go_enter Tryz.func28, Tryz.ntmps28
  go_wp2_with (go_at_call 50; refine (H.out _).mono ?_; rintro e w' ⟨rfl, rfl⟩)
  go_ret2
  exact ⟨rfl, Below.refl _ _⟩
set_option maxRecDepth 100000 in
set_option maxHeartbeats 2000000 in
theorem specDepthOfFormula_yes {f : Fm} (wf : f.wf) (h : f.txt.length ≤ 60) (w : World) :
    Calls Tryz.prog 28 #[.string f.bytes] w fun e w' => e = .returned (.tuple #[.int .i64 (f.depth : Int), .int .i64 0]) ∧ Below w.heap.size w w' := by
  have H := Lib.hid (l05Is_is (by rw [f.bytes_size]; omega) (fm_yes wf h))
  have S := Lib.hid (l05Depth_any 60 f wf h (by omega))
  go_enter Tryz.func28, Tryz.ntmps28
  go_wp2_with (first
    | (go_at_call 50; refine (H.out _).mono ?_; rintro e w' ⟨rfl, rfl⟩)
    | (go_at_call 76; refine (S.out _).mono ?_; rintro e w2 ⟨rfl, hb2⟩))
  go_ret2
  exact ⟨rfl, hb2⟩
/-- A list of texts and a code. -/
def StrsPost (base : Nat) (xs : List ByteArray) (c : Int) (w : World) (e : Ending) (w' : World) : Prop := ∃ s, e = .returned (.tuple #[s, .int .i64 c]) ∧ OwnsS w' base s xs ∧ Below w.heap.size w w'
set_option maxRecDepth 100000 in
set_option maxHeartbeats 2000000 in
theorem specPartsOfFormula_no {s : ByteArray} (hs : s.size ≤ 1048576) (h : isFm s = false) (w : World) :
    Calls Tryz.prog 23 #[.string s] w (StrsPost w.heap.size [] 6 w) := by
  have H := Lib.hid (l05Is_is hs h)
  clear h
  go_enter Tryz.func23, Tryz.ntmps23
  go_wp2_with (go_at_call 50; refine (H.out _).mono ?_; rintro e w' ⟨rfl, rfl⟩)
  go_ret2
  exact ⟨_, rfl, World.ownsRow_nil _ _ _ _, Below.refl _ _⟩
set_option maxRecDepth 100000 in
set_option maxHeartbeats 2000000 in
theorem specPartsOfFormula_yes {f : Fm} (wf : f.wf) (h : f.txt.length ≤ 60) (w : World) :
    Calls Tryz.prog 23 #[.string f.bytes] w (StrsPost w.heap.size (f.kids.map Fm.bytes) 0 w) := by
  have H := Lib.hid (l05Is_is (by rw [f.bytes_size]; omega) (fm_yes wf h))
  have S := Lib.hid (l05Parts_any wf (by omega))
  go_enter Tryz.func23, Tryz.ntmps23
  go_wp2_with (first
    | (go_at_call 50; refine (H.out _).mono ?_; rintro e w' ⟨rfl, rfl⟩)
    | (go_at_call 73; refine (S.out _).mono ?_; rintro e w2 ⟨s, rfl, ho, hb2⟩; have HO := Lib.hid ho; clear ho))
  go_ret2
  exact ⟨_, rfl, HO.out, hb2⟩
end Go.Proofs.YtleighihfgabkaaGreatDoor

/- O6:
  Formulas in the model: VariablesOfFormula. -/
namespace Go.Proofs.YtleighihfgabkaaGreatDoor
open Go.RowKit
set_option linter.unusedVariables false
set_option linter.unusedSimpArgs false

/-- Does the variable i stand in a text? -/
def vb (l : List UInt8) (i : Nat) : Bool := l.any fun c => c.toNat == 97 + i
def metV (l : List UInt8) : List Value := (List.range 4).map fun i => .bool (vb l i)
theorem metV_nil : metV [] = List.replicate 4 (.bool false) := rfl
theorem metV_len (l : List UInt8) : (metV l).length = 4 := by simp [metV]
theorem metV_get (l : List UInt8) (i : Nat) (h : i < 4) : (metV l)[i]? = some (.bool (vb l i)) := by simp [metV, h]
theorem vb_snoc (l : List UInt8) (c : UInt8) (i : Nat) : vb (l ++ [c]) i = (vb l i || c.toNat == 97 + i) := by simp [vb]
theorem metV_same (l : List UInt8) (c : UInt8) (h : c.toNat < 97 ∨ 100 < c.toNat) : metV (l ++ [c]) = metV l := by
  unfold metV
  refine List.map_congr_left fun i hi => ?_
  rw [List.mem_range] at hi
  have : (c.toNat == 97 + i) = false := by simp; omega
  rw [vb_snoc, this, Bool.or_false]
theorem metV_set (l : List UInt8) (c : UInt8) (q : Nat) (h : c.toNat = 97 + q) (hq : q < 4) : (metV l).set q (.bool true) = metV (l ++ [c]) := by
  apply List.ext_getElem
  · simp [metV]
  · intro i h1 h2
    simp only [metV, List.length_set, List.length_map, List.length_range] at h1
    rw [List.getElem_set]
    by_cases e : q = i
    · subst e
      simp [metV, vb_snoc, h]
    · simp only [e, if_false, metV, List.getElem_map, List.getElem_range, vb_snoc]
      have : (c.toNat == 97 + i) = false := by simp; omega
      rw [this, Bool.or_false]
/-- The variables below j that stand in a text. -/
def varsTo (l : List UInt8) (j : Nat) : List Int := ((List.range j).filter (vb l)).map fun (i : Nat) => (i : Int)
theorem varsTo_yes (l : List UInt8) (j : Nat) (h : vb l j = true) : varsTo l (j + 1) = varsTo l j ++ [(j : Int)] := by simp [varsTo, List.range_succ, h]
theorem varsTo_no (l : List UInt8) (j : Nat) (h : vb l j = false) : varsTo l (j + 1) = varsTo l j := by simp [varsTo, List.range_succ, h]
theorem varsTo_len (l : List UInt8) (j : Nat) : (varsTo l j).length ≤ j := by
  unfold varsTo
  rw [List.length_map]
  exact Nat.le_trans (List.length_filter_le _ _) (by simp)
theorem take_byte (s : ByteArray) (k : Nat) (h : k < s.size) : s.data.toList.take (k + 1) = s.data.toList.take k ++ [s[k]] := by
  rw [List.take_succ_eq_append_getElem (by rw [Array.length_toList]; exact h)]
  rfl
theorem infoB5 : (Tryz.prog.info? 4).map (fun i => (i.zero, i.size, i.bytes)) = some (some (.bool false), 1, 1) := by kernel_rfl
theorem infoI5 : (Tryz.prog.info? 2).map (fun i => (i.zero, i.size, i.bytes)) = some (some (.int .i64 0), 1, 8) := by kernel_rfl
set_option maxRecDepth 100000 in
set_option maxHeartbeats 4000000 in
theorem specVariablesOfFormula_no {s : ByteArray} (hs : s.size ≤ 1048576) (h : isFm s = false) (w : World) :
    Calls Tryz.prog 26 #[.string s] w (ListCodePost w.heap.size [] 6 w) := by
  have H := Lib.hid (l05Is_is hs h)
  clear h
  go_enter Tryz.func26, Tryz.ntmps26
  go_wp2_with (go_at_call 50; refine (H.out _).mono ?_; rintro e w' ⟨rfl, rfl⟩)
  go_ret2
  exact ⟨_, rfl, World.ownsRow_nil _ _ _ _, Below.refl _ _⟩
set_option maxRecDepth 100000 in
set_option maxHeartbeats 16000000 in
theorem specVariablesOfFormula_yes {s : ByteArray} (hs : s.size ≤ 1048576) (h : isFm s = true) (w : World) :
    Calls Tryz.prog 26 #[.string s] w (ListCodePost w.heap.size (varsTo s.data.toList 4) 0 w) := by
  obtain ⟨i0, hi, hz0, hz1, hz2⟩ := info_parts infoB5
  obtain ⟨i1, hi', hy0, hy1, hy2⟩ := info_parts infoI5
  have H := Lib.hid (l05Is_is hs h)
  have hl : s.data.toList.length ≤ s.size := Nat.le_of_eq Array.length_toList
  clear h
  go_enter Tryz.func26, Tryz.ntmps26
  go_wp2_with (first
    | (go_at_call 50; refine (H.out _).mono ?_; rintro e w' ⟨rfl, rfl⟩)
    | (at_make; refine wpList_make_full _ rfl _ _ 89 rfl w.heap.size 4 i0 (.bool false) 1 Tryz.underlying89 hi hz0 hz1 .i64 .i64 _ _ 4 rfl rfl rfl rfl (by rw [hz2]; omega) (by unfold maxLen; omega) (Nat.le_refl _) ?_; intro w1 hown1 hgrow1))
  have hB : Below w.heap.size w w1 := (Below.refl _ _).grown hgrow1 (Nat.le_refl _) (fun j e => by cases e)
  rw [show (Value.bool false).cells = #[.bool false] from rfl, toList_madeCells_one, Nat.mul_one, ← metV_nil] at hown1
  have hw1 : w.heap.size < w1.heap.size := (World.ownsRow.lt hown1 w.heap.size rfl).2
  have OUT := Lib.hid (show Owns (w1.alloc (.cells #[] 2)) w1.heap.size (.slice (some ⟨w1.heap.size, 0, none⟩) 0 0) (varsTo s.data.toList 0) from World.ownsRow_lit w1 #[] 0 (Nat.le_refl _) (by decide) rfl)
  have MET := Lib.hid (hown1.alloc (.cells #[] 2))
  have HB1 := Lib.hid (balloc hB (.cells #[] 2))
  clear hgrow1 hown1 hB
  go_loopw [6] (fun i wr => ∃ k : Nat, k ≤ s.size ∧ i = .int .i64 k ∧ Hid (wr.ownsRow w.heap.size 4 1 (.slice (some ⟨w.heap.size, 0, none⟩) 4 4) 4 (metV (s.data.toList.take k))) ∧ Hid (Owns wr w1.heap.size (.slice (some ⟨w1.heap.size, 0, none⟩) 0 0) (varsTo s.data.toList 0)) ∧ Hid (Below w.heap.size w wr)) (fun i _ => s.size - (intOf i).toNat)
  case atStart => exact ⟨0, Nat.zero_le _, rfl, MET, OUT, HB1⟩
  case round =>
    clear MET OUT HB1
    obtain ⟨k, hk, rfl, M, O, HB⟩ := hrel
    by_cases hlt : k < s.size
    · have T := Lib.hid (take_byte s k hlt)
      by_cases h1 : 97 ≤ s[k].toNat ∧ s[k].toNat ≤ 100
      · obtain ⟨h1, h2⟩ := h1
        obtain ⟨q, hq⟩ : ∃ q, s[k].toNat = 97 + q := ⟨s[k].toNat - 97, by omega⟩
        have hq4 : q < 4 := by omega
        have c1 : decide ((97 : Int) ≤ (s[k].toNat : Int)) = true := by simp; omega
        have c2 : decide ((s[k].toNat : Int) ≤ 100) = true := by simp; omega
        have eQ : IntKind.u8.wrap ((s[k].toNat : Int) - 97) = (q : Int) := by
          unfold IntKind.wrap
          simp [IntKind.bits, IntKind.signed]
          omega
        have hcq : wr.cell? ⟨w.heap.size, q, none⟩ = some (.bool (vb (s.data.toList.take k) q)) := by rw [M.out.cellAt q (by omega)]; exact metV_get _ q hq4
        have hfq := M.out.frozenAt q
        have hst := M.out.stored q (.bool true)
        have M2 := Lib.hid (show (wr.setCell ⟨w.heap.size, q, none⟩ (.bool true)).ownsRow w.heap.size 4 1 (.slice (some ⟨w.heap.size, 0, none⟩) 4 4) 4 (metV (s.data.toList.take (k + 1))) by
          rw [T.out, ← metV_set _ _ q hq hq4]; exact hst.1)
        have O2 := Lib.hid (show Owns (wr.setCell ⟨w.heap.size, q, none⟩ (.bool true)) w1.heap.size (.slice (some ⟨w1.heap.size, 0, none⟩) 0 0) (varsTo s.data.toList 0) from World.ownsRow.kept O.out hst.2 (.inr (by intro e; have : w1.heap.size = w.heap.size := Option.some.inj e; omega)))
        have HB2 := Lib.hid (HB.out.setCell (p := ⟨w.heap.size, q, none⟩) (Nat.le_refl _) (.bool true))
        clear hst hq M O HB h1 h2
        go_wp2_with fail
        go_roundw
        case rel => exact ⟨k + 1, by omega, by go_num, M2, O2, HB2⟩
        case measure => simp [intOf]; omega
      · have M2 := Lib.hid (show wr.ownsRow w.heap.size 4 1 (.slice (some ⟨w.heap.size, 0, none⟩) 4 4) 4 (metV (s.data.toList.take (k + 1))) by
          rw [T.out, metV_same _ _ (by omega)]; exact M.out)
        by_cases h2 : 97 ≤ s[k].toNat
        · have c1 : decide ((97 : Int) ≤ (s[k].toNat : Int)) = true := by simp; omega
          have c2 : decide ((s[k].toNat : Int) ≤ 100) = false := by simp; omega
          clear M h1 h2
          go_wp2_with fail
          go_roundw
          case rel => exact ⟨k + 1, by omega, by go_num, M2, O, HB⟩
          case measure => simp [intOf]; omega
        · have c1 : decide ((97 : Int) ≤ (s[k].toNat : Int)) = false := by simp; omega
          clear M h1 h2
          go_wp2_with fail
          go_roundw
          case rel => exact ⟨k + 1, by omega, by go_num, M2, O, HB⟩
          case measure => simp [intOf]; omega
    · obtain rfl : k = s.size := by omega
      have e : s.data.toList.take s.size = s.data.toList := List.take_of_length_le hl
      rw [e] at M
      clear e hl
      generalize s.data.toList = l at *
      go_wp2_with fail
      go_loopw [5, 7] (fun o i wq => ∃ j : Nat, j ≤ 4 ∧ i = .int .i64 j ∧ Hid (wq.ownsRow w.heap.size 4 1 (.slice (some ⟨w.heap.size, 0, none⟩) 4 4) 4 (metV l)) ∧ Hid (Owns wq w1.heap.size o (varsTo l j)) ∧ Hid (Below w.heap.size w wq) ∧ Hid (w1.heap.size ≤ wq.heap.size)) (fun _ i _ => 4 - (intOf i).toNat)
      case atStart => exact ⟨0, by omega, rfl, M, O, HB, Lib.hid (by have := (World.ownsRow.lt O.out w1.heap.size rfl).2; omega)⟩
      case round =>
        clear M O HB
        obtain ⟨j, hj, rfl, M, O, HB, HZ⟩ := hrel
        by_cases hlt : j < 4
        · have hcq : wr.cell? ⟨w.heap.size, j, none⟩ = some (.bool (vb l j)) := by rw [M.out.cellAt j (by omega)]; exact metV_get _ j hlt
          have hlen := varsTo_len l j
          cases hb : vb l j
          · rw [hb] at hcq
            have E := Lib.hid (varsTo_no l j hb)
            clear hb
            go_wp2_with fail
            go_roundw
            case rel => exact ⟨j + 1, by omega, by go_num, M, by rw [E.out]; exact O, HB, HZ⟩
            case measure => simp [intOf]; omega
          · rw [hb] at hcq
            have E := Lib.hid (varsTo_yes l j hb)
            have hown5 := O.out
            unfold Owns at hown5
            have hwz : w1.heap.size ≤ wr.heap.size := HZ.out
            clear hb O
            go_wp2_with (at_builtin; refine wpList_append_own _ rfl _ _ 45 rfl w1.heap.size 2 i1 (.int .i64 0) 1 8 Tryz.underlying45 hi' hy0 hy1 hy2 rfl (by decide) _ _ _ rfl (hown5.alloc _) ⟨wr.heap.size, 0, none⟩ 1 1 [.int .i64 (j : Int)] rfl rfl (cell_one_new _ _ _) (one_cell_int _) (by unfold maxLen; omega) (by omega) (by simp; omega) ?_)
            intro v' w9 hown' hgrow _
            have O9 := Lib.hid (show Owns w9 w1.heap.size v' (varsTo l (j + 1)) by
              rw [E.out]
              unfold Owns
              rw [ints_snoc, List.length_append]
              exact hown')
            have hlow : ∀ k, Value.ownBlock _ = some k → w1.heap.size ≤ k := fun k e => (World.ownsRow.lt hown5 k e).1
            have M9 := Lib.hid ((M.out.alloc (.cells #[.int .i64 (j : Int)] 2)).kept hgrow (.inr (by intro e; have := hlow w.heap.size e.symm; omega)))
            have HB9 := Lib.hid ((HB.out.alloc (by omega) (.cells #[.int .i64 (j : Int)] 2)).grown hgrow (by simp; omega) (fun j e => by have := (hown5.lt j e).1; omega))
            have hgz : w1.heap.size ≤ w9.heap.size := by have := hgrow.size; simp at this; omega
            clear hgrow hown5 hown' M HB hlow
            go_wp2
            go_roundw
            case rel => exact ⟨j + 1, by omega, by go_num, M9, O9, HB9, Lib.hid (by have := hgz; omega)⟩
            case measure => simp [intOf]; omega
        · obtain rfl : j = 4 := by omega
          go_wp2_with fail
          go_ret2
          exact ⟨_, rfl, O.out.mono (by omega), HB.out⟩
end Go.Proofs.YtleighihfgabkaaGreatDoor

/- O7:
  Formulas in the model: dual formulas. -/
namespace Go.Proofs.YtleighihfgabkaaGreatDoor
open Go.RowKit
set_option linter.unusedVariables false
set_option linter.unusedSimpArgs false

/-- The dual formula. -/
def Fm.dual : Fm → Fm
  | .leaf c => if c = 48 then .leaf 49 else if c = 49 then .leaf 48 else .leaf c
  | .one c a => .one c a.dual
  | .two c a b => if c = 38 then .two 124 a.dual b.dual else if c = 124 then .two 38 a.dual b.dual else .one 33 (.two c a.dual b.dual)
  | .three c a b d => if c = 63 then .three c a.dual d.dual b.dual else .three c a.dual b.dual d.dual
theorem Fm.dual_len (f : Fm) : f.dual.txt.length ≤ 2 * f.txt.length := by
  induction f with
  | leaf c => simp only [Fm.dual]; split <;> (try split) <;> simp [Fm.txt]
  | one c a ih => simp only [Fm.dual, Fm.txt, List.length_cons]; omega
  | two c a b h1 h2 => simp only [Fm.dual]; split <;> (try split) <;> simp only [Fm.txt, List.length_cons, List.length_append] <;> omega
  | three c a b d h1 h2 h3 => simp only [Fm.dual]; split <;> simp only [Fm.txt, List.length_cons, List.length_append] <;> omega
/-- The list of parts while the first j of them are dual. -/
def Fm.dl (f : Fm) (j : Nat) : List ByteArray := ((f.kids.take j).map fun g => g.dual.bytes) ++ (f.kids.drop j).map Fm.bytes
theorem Fm.dl_len (f : Fm) (j : Nat) : (f.dl j).length = f.kids.length := by
  simp only [Fm.dl, List.length_append, List.length_map, List.length_take, List.length_drop]
  omega
theorem Fm.dl_zero (f : Fm) : f.dl 0 = f.kids.map Fm.bytes := by simp [Fm.dl]
theorem Fm.dl_all (f : Fm) : f.dl f.kids.length = f.kids.map fun g => g.dual.bytes := by simp [Fm.dl]
theorem Fm.dl_get (f : Fm) (j : Nat) (h : j < f.kids.length) : (f.dl j)[j]? = some (f.kids[j]).bytes := by
  unfold Fm.dl
  rw [List.getElem?_append_right (by simp; omega), List.length_map, List.length_take, Nat.min_eq_left (Nat.le_of_lt h), Nat.sub_self, List.drop_eq_getElem_cons h]
  rfl
theorem Fm.dl_set (f : Fm) (j : Nat) (h : j < f.kids.length) : (f.dl j).set j (f.kids[j]).dual.bytes = f.dl (j + 1) := by
  unfold Fm.dl
  rw [List.set_append_right _ _ (by simp; omega), List.length_map, List.length_take, Nat.min_eq_left (Nat.le_of_lt h), Nat.sub_self, List.drop_eq_getElem_cons h, List.map_cons, List.set_cons_zero, List.take_succ_eq_append_getElem h, List.map_append, List.append_assoc]
  rfl
theorem strs_set (xs : List ByteArray) (j : Nat) (x : ByteArray) : strs (xs.set j x) = (strs xs).set j (.string x) := by simp [strs, List.map_set]
theorem strs_get (xs : List ByteArray) (j : Nat) : (strs xs)[j]? = (xs[j]?).map Value.string := by simp [strs]
theorem cat1 (c : UInt8) (a : Fm) : ((⟨#[c]⟩ : ByteArray) ++ a.bytes) = ⟨(c :: a.txt).toArray⟩ := by
  apply ByteArray.ext
  simp [Fm.bytes, ByteArray.data_append]
theorem catL (l : List UInt8) (b : Fm) : ((⟨l.toArray⟩ : ByteArray) ++ b.bytes) = ⟨(l ++ b.txt).toArray⟩ := by
  apply ByteArray.ext
  simp [Fm.bytes, ByteArray.data_append]
theorem cat2 (c : UInt8) (a b : Fm) : ((⟨#[c]⟩ : ByteArray) ++ a.bytes) ++ b.bytes = (Fm.two c a b).bytes := by
  rw [cat1, catL]
  rfl
theorem cat2x (a b : Fm) : ((⟨#[33, 94]⟩ : ByteArray) ++ a.bytes) ++ b.bytes = (Fm.one 33 (.two 94 a b)).bytes := by
  rw [show (⟨#[33, 94]⟩ : ByteArray) = ⟨[33, 94].toArray⟩ from rfl, catL, catL]
  simp [Fm.bytes, Fm.txt]
theorem cat3 (c : UInt8) (a b d : Fm) : (((⟨#[c]⟩ : ByteArray) ++ a.bytes) ++ b.bytes) ++ d.bytes = (Fm.three c a b d).bytes := by
  rw [cat1, catL, catL]
  simp [Fm.bytes, Fm.txt]
/-- The dual formula while its first j parts are put behind the head. -/
def Fm.ot (f : Fm) (j : Nat) : ByteArray := ⟨(f.head :: ((f.kids.take j).map fun g => g.dual.txt).flatten).toArray⟩
theorem Fm.ot_zero (f : Fm) : f.bytes.extract 0 1 = f.ot 0 := by
  apply ByteArray.ext
  rw [ByteArray.data_extract]
  unfold Fm.ot Fm.bytes
  rw [f.txt_kids]
  simp
theorem Fm.ot_succ (f : Fm) (j : Nat) (h : j < f.kids.length) : f.ot j ++ (f.kids[j]).dual.bytes = f.ot (j + 1) := by
  unfold Fm.ot
  have e : f.kids.take (j + 1) = f.kids.take j ++ [f.kids[j]] := List.take_succ_eq_append_getElem h
  rw [catL, e, List.map_append, List.flatten_append]
  simp only [List.map_cons, List.map_nil, List.flatten_cons, List.flatten_nil, List.append_nil, List.cons_append]
theorem Fm.ot_size (f : Fm) (j : Nat) (h : j ≤ f.kids.length) : (f.ot j).size ≤ 2 * f.txt.length := by
  have key : ∀ l : List Fm, ((l.map fun g => g.dual.txt).flatten).length ≤ 2 * ((l.map Fm.txt).flatten).length := by
    intro l
    induction l with
    | nil => simp
    | cons g l ih =>
      have := g.dual_len
      simp only [List.map_cons, List.flatten_cons, List.length_append]
      omega
  have h1 := key (f.kids.take j)
  have h2 : (f.ot j).size = (f.head :: ((f.kids.take j).map fun g => g.dual.txt).flatten).length := by
    show (f.head :: ((f.kids.take j).map fun g => g.dual.txt).flatten).toArray.size = _
    simp
  have h3 : ((f.kids.take j).map Fm.txt).flatten.length ≤ (f.kids.map Fm.txt).flatten.length := by
    conv => rhs; rw [← List.take_append_drop j f.kids, List.map_append, List.flatten_append, List.length_append]
    omega
  rw [h2, List.length_cons, f.txt_kids, List.length_cons]
  omega
theorem Fm.head_at (f : Fm) (h : 0 < f.bytes.size) : f.bytes[0] = f.head := by
  have e : f.bytes.data.toList = f.head :: (f.kids.map Fm.txt).flatten := by rw [f.bytes_list, f.txt_kids]
  show f.bytes.data[0] = _
  rw [← Array.getElem_toList]
  simp [e]
theorem plc_cases {c : UInt8} {k : Nat} (h : plc c = some k) : (k = 0 ∧ (c = 97 ∨ c = 98 ∨ c = 99 ∨ c = 100 ∨ c = 48 ∨ c = 49)) ∨ (k = 1 ∧ c = 33) ∨ (k = 2 ∧ (c = 38 ∨ c = 124 ∨ c = 94)) ∨ (k = 3 ∧ (c = 63 ∨ c = 77)) := by
  unfold plc at h
  split at h
  · cases h; exact .inl ⟨rfl, by assumption⟩
  · split at h
    · cases h; exact .inr (.inl ⟨rfl, by assumption⟩)
    · split at h
      · cases h; exact .inr (.inr (.inl ⟨rfl, by assumption⟩))
      · split at h
        · cases h; exact .inr (.inr (.inr ⟨rfl, by assumption⟩))
        · cases h
/-- A formula whose dual keeps its head. -/
def Fm.keeps (f : Fm) : Prop := (f.head.toNat ≠ 48 ∧ f.head.toNat ≠ 49 ∧ f.head.toNat ≠ 38 ∧ f.head.toNat ≠ 124 ∧ f.head.toNat ≠ 94 ∧ f.head.toNat ≠ 63) ∧ f.ot f.kids.length = f.dual.bytes
theorem Fm.shape {f : Fm} (w : f.wf) : f = .leaf 48 ∨ f = .leaf 49 ∨ (∃ a b, f = .two 38 a b) ∨ (∃ a b, f = .two 124 a b) ∨ (∃ a b, f = .two 94 a b) ∨ (∃ a b d, f = .three 63 a b d) ∨ f.keeps := by
  cases f with
  | leaf c =>
    rcases plc_cases (show plc c = some 0 from w) with ⟨_, h⟩ | ⟨h, _⟩ | ⟨h, _⟩ | ⟨h, _⟩
    · rcases h with rfl | rfl | rfl | rfl | rfl | rfl
      · exact .inr (.inr (.inr (.inr (.inr (.inr ⟨by decide, rfl⟩)))))
      · exact .inr (.inr (.inr (.inr (.inr (.inr ⟨by decide, rfl⟩)))))
      · exact .inr (.inr (.inr (.inr (.inr (.inr ⟨by decide, rfl⟩)))))
      · exact .inr (.inr (.inr (.inr (.inr (.inr ⟨by decide, rfl⟩)))))
      · exact .inl rfl
      · exact .inr (.inl rfl)
    all_goals omega
  | one c a =>
    rcases plc_cases w.1 with ⟨h, _⟩ | ⟨_, rfl⟩ | ⟨h, _⟩ | ⟨h, _⟩
    · omega
    · exact .inr (.inr (.inr (.inr (.inr (.inr ⟨by simp [Fm.head], by simp [Fm.ot, Fm.kids, Fm.head, Fm.dual, Fm.bytes, Fm.txt]⟩)))))
    all_goals omega
  | two c a b =>
    rcases plc_cases w.1 with ⟨h, _⟩ | ⟨h, _⟩ | ⟨_, h⟩ | ⟨h, _⟩
    · omega
    · omega
    · rcases h with rfl | rfl | rfl
      · exact .inr (.inr (.inl ⟨a, b, rfl⟩))
      · exact .inr (.inr (.inr (.inl ⟨a, b, rfl⟩)))
      · exact .inr (.inr (.inr (.inr (.inl ⟨a, b, rfl⟩))))
    · omega
  | three c a b d =>
    rcases plc_cases w.1 with ⟨h, _⟩ | ⟨h, _⟩ | ⟨h, _⟩ | ⟨_, h⟩
    · omega
    · omega
    · omega
    · rcases h with rfl | rfl
      · exact .inr (.inr (.inr (.inr (.inr (.inl ⟨a, b, d, rfl⟩)))))
      · exact .inr (.inr (.inr (.inr (.inr (.inr ⟨by simp [Fm.head], by simp [Fm.ot, Fm.kids, Fm.head, Fm.dual, Fm.bytes, Fm.txt]⟩)))))
theorem gOf0 {W W' : World} (hb : Below W.heap.size W W') : W.grownBy W' none := ⟨hb.os, hb.tape, hb.output, hb.size, fun k hk _ => hb.block k hk⟩
def DualPost (f : Fm) (w : World) (e : Ending) (w' : World) : Prop := e = .returned (.string f.dual.bytes) ∧ Below w.heap.size w w'
set_option maxRecDepth 100000 in
set_option maxHeartbeats 16000000 in
theorem l05Dual_any : ∀ (n : Nat) (f : Fm), f.wf → f.txt.length ≤ n → n ≤ 1000 → ∀ w, Calls Tryz.prog 72 #[.string f.bytes] w (DualPost f w) := by
  intro n
  induction n with
  | zero => intro f _ h; have := f.txt_pos; omega
  | succ n ih =>
    intro f wf hf hn w
    have PP := Lib.hid (l05Parts_any wf (by omega) w)
    have hpos := f.txt_pos
    have hz0 : 0 < f.bytes.size := by rw [f.bytes_size]; exact hpos
    have hhead := f.head_at hz0
    go_enter Tryz.func72, Tryz.ntmps72
    go_wp2_with fail
    refine PP.out.mono ?_
    rintro e w2 ⟨s, rfl, ho, hb⟩
    rw [← f.dl_zero] at ho
    have O2 := Lib.hid ho
    obtain ⟨a, cap, hs, _⟩ := ho.form
    rw [f.dl_len] at hs
    subst hs
    have HB := Lib.hid hb
    have hk3 := f.kids_le
    have HH := Lib.hid hhead
    clear PP ho hb hhead
    go_wp2_with fail
    go_loopw [4] (fun i wr => ∃ j : Nat, j ≤ f.kids.length ∧ i = .int .i64 j ∧ Hid (OwnsS wr w.heap.size (.slice a f.kids.length cap) (f.dl j)) ∧ Hid (Below w.heap.size w wr)) (fun i _ => f.kids.length - (intOf i).toNat)
    case atStart => exact ⟨0, Nat.zero_le _, rfl, O2, HB⟩
    case round =>
      clear O2 HB
      obtain ⟨j, hj, rfl, O, HB⟩ := hrel
      have hown := O.out
      unfold OwnsS at hown
      rw [f.dl_len] at hown
      have HO := Lib.hid hown
      by_cases hlt : j < f.kids.length
      · obtain ⟨g, cap', e5, hgB, hgw⟩ := World.ownsRow.form HO.out (by omega)
        cases e5
        have d1 := World.ownsRow.cellAt hown j (by omega)
        rw [strs_get, f.dl_get j hlt, Option.map_some] at d1
        have hm := List.getElem_mem hlt
        have I := Lib.hid (ih (f.kids[j]) (Fm.kids_wf wf _ hm) (by have := Fm.kids_lt (f := f) _ hm; omega) (by omega))
        have ES := Lib.hid (f.dl_set j hlt)
        have hszr : w.heap.size ≤ wr.heap.size := HB.out.size
        clear hown hm O
        go_wp2_with fail
        refine (I.out _).mono ?_
        rintro e w5 ⟨rfl, hb5⟩
        have hown5 : w5.ownsRow w.heap.size 9 1 (.slice (some ⟨g, 0, none⟩) f.kids.length cap) f.kids.length (strs (f.dl j)) := World.ownsRow.kept HO.out (gOf0 hb5) (.inr (by intro e; cases e))
        have d2 := kc hb5 d1
        have y2 := World.ownsRow.frozenAt hown5 j
        have ST := World.ownsRow.stored hown5 j (.string (f.kids[j]).dual.bytes)
        have O6 := Lib.hid (show OwnsS (w5.setCell ⟨g, j, none⟩ (.string (f.kids[j]).dual.bytes)) w.heap.size (.slice (some ⟨g, 0, none⟩) f.kids.length cap) (f.dl (j + 1)) by
          unfold OwnsS
          rw [f.dl_len, ← ES.out, strs_set]
          exact ST.1)
        have HB6 := Lib.hid ((bthen HB.out hb5).setCell (p := ⟨g, j, none⟩) hgB (.string (f.kids[j]).dual.bytes))
        clear hown5 ST hb5 d1 HO HB ES I
        generalize (f.kids[j]).dual.bytes = X at *
        go_wp2_with fail
        go_roundw
        case rel => exact ⟨j + 1, by omega, by go_num, O6, HB6⟩
        case measure => simp [intOf]; omega
      · obtain rfl : j = f.kids.length := by omega
        have O' := hown
        rw [f.dl_all] at O'
        have HF := Lib.hid HB.out
        have DD := Lib.hid O'
        clear hown O O' HB HO
        have HK := Lib.hid (show f.bytes.size = f.txt.length from f.bytes_size)
        have hl := hf
        rcases Fm.shape wf with rfl | rfl | ⟨a, b, rfl⟩ | ⟨a, b, rfl⟩ | ⟨a, b, rfl⟩ | ⟨a, b, d, rfl⟩ | hkp
        · have hb : (Fm.leaf 48).bytes[0]'hz0 = 48 := HH.out
          clear HH DD
          generalize (Fm.leaf 48).bytes = T at *
          have hb1 : T[0].toNat = 48 := by rw [hb]; rfl
          clear hb
          go_wp2_with fail
          go_ret
          exact ⟨rfl, HF.out⟩
        · have hb : (Fm.leaf 49).bytes[0]'hz0 = 49 := HH.out
          clear HH DD
          generalize (Fm.leaf 49).bytes = T at *
          have hb1 : T[0].toNat = 49 := by rw [hb]; rfl
          clear hb
          go_wp2_with fail
          go_ret
          exact ⟨rfl, HF.out⟩
        · have hb : (Fm.two 38 a b).bytes[0]'hz0 = 38 := HH.out
          obtain ⟨g, cap', e5, hgB, hgw⟩ := World.ownsRow.form DD.out (by show 0 < 2; decide)
          cases e5
          have d0 : wr.cell? ⟨g, 0, none⟩ = some (.string a.dual.bytes) := (World.ownsRow.cellAt DD.out 0 (by show 0 < 2 * 1; decide)).trans rfl
          have d1 : wr.cell? ⟨g, 1, none⟩ = some (.string b.dual.bytes) := (World.ownsRow.cellAt DD.out 1 (by show 1 < 2 * 1; decide)).trans rfl
          have sa : a.dual.bytes.size ≤ 2002 := by rw [Fm.bytes_size]; have h1 := a.dual_len; have h2 := Fm.kids_lt (f := Fm.two 38 a b) a (by simp [Fm.kids]); omega
          have sb : b.dual.bytes.size ≤ 2002 := by rw [Fm.bytes_size]; have h1 := b.dual_len; have h2 := Fm.kids_lt (f := Fm.two 38 a b) b (by simp [Fm.kids]); omega
          have EQ := Lib.hid (show (((⟨#[124]⟩ : ByteArray) ++ a.dual.bytes) ++ b.dual.bytes) = (Fm.two 38 a b).dual.bytes from cat2 124 a.dual b.dual)
          have SZ := Lib.hid (show True from trivial)
          clear DD HH
          obtain ⟨R, hR⟩ : ∃ R, (Fm.two 38 a b).dual.bytes = R := ⟨_, rfl⟩
          rw [hR] at EQ
          have HR := Lib.hid hR
          clear hR
          generalize a.dual.bytes = A at *
          generalize b.dual.bytes = B at *
          generalize (Fm.two 38 a b).bytes = T at *
          have hb1 : T[0].toNat = 38 := by rw [hb]; rfl
          clear hb
          have n0 : ¬ (9223372036854775807 < (⟨#[124]⟩ : ByteArray).size + A.size) := by simp only [ByteArray.size_append, ByteArray.size_mk']; simp; omega
          have m0 : ¬ (9223372036854775807 < 1 + A.size) := by omega
          have n1 : ¬ (9223372036854775807 < ((⟨#[124]⟩ : ByteArray) ++ A).size + B.size) := by simp only [ByteArray.size_append, ByteArray.size_mk']; simp; omega
          have m1 : ¬ (9223372036854775807 < 1 + A.size + B.size) := by omega
          have hkl : (Fm.two 38 a b).kids.length = 2 := rfl
          rw [hkl]
          clear hkl
          go_wp2_with fail
          go_region
          go_wp2
          go_ret
          exact ⟨by rw [HR.out, ← EQ.out]; rfl, HF.out.drew⟩
        · have hb : (Fm.two 124 a b).bytes[0]'hz0 = 124 := HH.out
          obtain ⟨g, cap', e5, hgB, hgw⟩ := World.ownsRow.form DD.out (by show 0 < 2; decide)
          cases e5
          have d0 : wr.cell? ⟨g, 0, none⟩ = some (.string a.dual.bytes) := (World.ownsRow.cellAt DD.out 0 (by show 0 < 2 * 1; decide)).trans rfl
          have d1 : wr.cell? ⟨g, 1, none⟩ = some (.string b.dual.bytes) := (World.ownsRow.cellAt DD.out 1 (by show 1 < 2 * 1; decide)).trans rfl
          have sa : a.dual.bytes.size ≤ 2002 := by rw [Fm.bytes_size]; have h1 := a.dual_len; have h2 := Fm.kids_lt (f := Fm.two 124 a b) a (by simp [Fm.kids]); omega
          have sb : b.dual.bytes.size ≤ 2002 := by rw [Fm.bytes_size]; have h1 := b.dual_len; have h2 := Fm.kids_lt (f := Fm.two 124 a b) b (by simp [Fm.kids]); omega
          have EQ := Lib.hid (show (((⟨#[38]⟩ : ByteArray) ++ a.dual.bytes) ++ b.dual.bytes) = (Fm.two 124 a b).dual.bytes from cat2 38 a.dual b.dual)
          have SZ := Lib.hid (show True from trivial)
          clear DD HH
          obtain ⟨R, hR⟩ : ∃ R, (Fm.two 124 a b).dual.bytes = R := ⟨_, rfl⟩
          rw [hR] at EQ
          have HR := Lib.hid hR
          clear hR
          generalize a.dual.bytes = A at *
          generalize b.dual.bytes = B at *
          generalize (Fm.two 124 a b).bytes = T at *
          have hb1 : T[0].toNat = 124 := by rw [hb]; rfl
          clear hb
          have n0 : ¬ (9223372036854775807 < (⟨#[38]⟩ : ByteArray).size + A.size) := by simp only [ByteArray.size_append, ByteArray.size_mk']; simp; omega
          have m0 : ¬ (9223372036854775807 < 1 + A.size) := by omega
          have n1 : ¬ (9223372036854775807 < ((⟨#[38]⟩ : ByteArray) ++ A).size + B.size) := by simp only [ByteArray.size_append, ByteArray.size_mk']; simp; omega
          have m1 : ¬ (9223372036854775807 < 1 + A.size + B.size) := by omega
          have hkl : (Fm.two 124 a b).kids.length = 2 := rfl
          rw [hkl]
          clear hkl
          go_wp2_with fail
          go_region
          go_wp2
          go_ret
          exact ⟨by rw [HR.out, ← EQ.out]; rfl, HF.out.drew⟩
        · have hb : (Fm.two 94 a b).bytes[0]'hz0 = 94 := HH.out
          obtain ⟨g, cap', e5, hgB, hgw⟩ := World.ownsRow.form DD.out (by show 0 < 2; decide)
          cases e5
          have d0 : wr.cell? ⟨g, 0, none⟩ = some (.string a.dual.bytes) := (World.ownsRow.cellAt DD.out 0 (by show 0 < 2 * 1; decide)).trans rfl
          have d1 : wr.cell? ⟨g, 1, none⟩ = some (.string b.dual.bytes) := (World.ownsRow.cellAt DD.out 1 (by show 1 < 2 * 1; decide)).trans rfl
          have sa : a.dual.bytes.size ≤ 2002 := by rw [Fm.bytes_size]; have h1 := a.dual_len; have h2 := Fm.kids_lt (f := Fm.two 94 a b) a (by simp [Fm.kids]); omega
          have sb : b.dual.bytes.size ≤ 2002 := by rw [Fm.bytes_size]; have h1 := b.dual_len; have h2 := Fm.kids_lt (f := Fm.two 94 a b) b (by simp [Fm.kids]); omega
          have EQ := Lib.hid (show (((⟨#[33, 94]⟩ : ByteArray) ++ a.dual.bytes) ++ b.dual.bytes) = (Fm.two 94 a b).dual.bytes from cat2x a.dual b.dual)
          have SZ := Lib.hid (show True from trivial)
          clear DD HH
          obtain ⟨R, hR⟩ : ∃ R, (Fm.two 94 a b).dual.bytes = R := ⟨_, rfl⟩
          rw [hR] at EQ
          have HR := Lib.hid hR
          clear hR
          generalize a.dual.bytes = A at *
          generalize b.dual.bytes = B at *
          generalize (Fm.two 94 a b).bytes = T at *
          have hb1 : T[0].toNat = 94 := by rw [hb]; rfl
          clear hb
          have n0 : ¬ (9223372036854775807 < (⟨#[33, 94]⟩ : ByteArray).size + A.size) := by simp only [ByteArray.size_append, ByteArray.size_mk']; simp; omega
          have m0 : ¬ (9223372036854775807 < 2 + A.size) := by omega
          have n1 : ¬ (9223372036854775807 < ((⟨#[33, 94]⟩ : ByteArray) ++ A).size + B.size) := by simp only [ByteArray.size_append, ByteArray.size_mk']; simp; omega
          have m1 : ¬ (9223372036854775807 < 2 + A.size + B.size) := by omega
          have hkl : (Fm.two 94 a b).kids.length = 2 := rfl
          rw [hkl]
          clear hkl
          go_wp2_with fail
          go_region
          go_wp2
          go_ret
          exact ⟨by rw [HR.out, ← EQ.out]; rfl, HF.out.drew⟩
        · have hb : (Fm.three 63 a b d).bytes[0]'hz0 = 63 := HH.out
          obtain ⟨g, cap', e5, hgB, hgw⟩ := World.ownsRow.form DD.out (by show 0 < 3; decide)
          cases e5
          have d0 : wr.cell? ⟨g, 0, none⟩ = some (.string a.dual.bytes) := (World.ownsRow.cellAt DD.out 0 (by show 0 < 3 * 1; decide)).trans rfl
          have d1 : wr.cell? ⟨g, 1, none⟩ = some (.string b.dual.bytes) := (World.ownsRow.cellAt DD.out 1 (by show 1 < 3 * 1; decide)).trans rfl
          have d2 : wr.cell? ⟨g, 2, none⟩ = some (.string d.dual.bytes) := (World.ownsRow.cellAt DD.out 2 (by show 2 < 3 * 1; decide)).trans rfl
          have sa : a.dual.bytes.size ≤ 2002 := by rw [Fm.bytes_size]; have h1 := a.dual_len; have h2 := Fm.kids_lt (f := Fm.three 63 a b d) a (by simp [Fm.kids]); omega
          have sb : b.dual.bytes.size ≤ 2002 := by rw [Fm.bytes_size]; have h1 := b.dual_len; have h2 := Fm.kids_lt (f := Fm.three 63 a b d) b (by simp [Fm.kids]); omega
          have sd : d.dual.bytes.size ≤ 2002 := by rw [Fm.bytes_size]; have h1 := d.dual_len; have h2 := Fm.kids_lt (f := Fm.three 63 a b d) d (by simp [Fm.kids]); omega
          have EQ := Lib.hid (show ((((⟨#[63]⟩ : ByteArray) ++ a.dual.bytes) ++ d.dual.bytes) ++ b.dual.bytes) = (Fm.three 63 a b d).dual.bytes from cat3 63 a.dual d.dual b.dual)
          have SZ := Lib.hid (show True from trivial)
          clear DD HH
          obtain ⟨R, hR⟩ : ∃ R, (Fm.three 63 a b d).dual.bytes = R := ⟨_, rfl⟩
          rw [hR] at EQ
          have HR := Lib.hid hR
          clear hR
          generalize a.dual.bytes = A at *
          generalize b.dual.bytes = B at *
          generalize d.dual.bytes = D at *
          generalize (Fm.three 63 a b d).bytes = T at *
          have hb1 : T[0].toNat = 63 := by rw [hb]; rfl
          clear hb
          have n0 : ¬ (9223372036854775807 < (⟨#[63]⟩ : ByteArray).size + A.size) := by simp only [ByteArray.size_append, ByteArray.size_mk']; simp; omega
          have m0 : ¬ (9223372036854775807 < 1 + A.size) := by omega
          have n1 : ¬ (9223372036854775807 < ((⟨#[63]⟩ : ByteArray) ++ A).size + D.size) := by simp only [ByteArray.size_append, ByteArray.size_mk']; simp; omega
          have m1 : ¬ (9223372036854775807 < 1 + A.size + D.size) := by omega
          have n2 : ¬ (9223372036854775807 < (((⟨#[63]⟩ : ByteArray) ++ A) ++ D).size + B.size) := by simp only [ByteArray.size_append, ByteArray.size_mk']; simp; omega
          have m2 : ¬ (9223372036854775807 < 1 + A.size + D.size + B.size) := by omega
          have hkl : (Fm.three 63 a b d).kids.length = 3 := rfl
          rw [hkl]
          clear hkl
          go_wp2_with fail
          go_region
          go_wp2
          go_ret
          exact ⟨by rw [HR.out, ← EQ.out]; rfl, HF.out.drew⟩
        · obtain ⟨⟨k1, k2, k3, k4, k5, k6⟩, hot⟩ := hkp
          have hb : f.bytes[0] = f.head := HH.out
          rw [← hb] at k1 k2 k3 k4 k5 k6
          have EX := Lib.hid f.ot_zero
          have HOT := Lib.hid hot
          have h1z : 1 ≤ f.bytes.size := hz0
          have t1 : ((f.bytes[0].toNat : Int) == 48) = false := by simp; omega
          have t2 : ((f.bytes[0].toNat : Int) == 49) = false := by simp; omega
          have t3 : ((f.bytes[0].toNat : Int) == 38) = false := by simp; omega
          have t4 : ((f.bytes[0].toNat : Int) == 124) = false := by simp; omega
          have t5 : ((f.bytes[0].toNat : Int) == 94) = false := by simp; omega
          have t6 : ((f.bytes[0].toNat : Int) == 63) = false := by simp; omega
          have hol := Lib.hid (fun j hj => f.ot_size j hj)
          have hol2 : 2 * f.txt.length ≤ 2002 := by omega
          clear hb HH hot k1 k2 k3 k4 k5 k6
          go_wp2_with fail
          rw [EX.out]
          go_loopw [5, 6] (fun o i wq => ∃ j : Nat, j ≤ f.kids.length ∧ i = .int .i64 j ∧ o = .string (f.ot j) ∧ Below wr.heap.size wr wq) (fun _ i _ => f.kids.length - (intOf i).toNat)
          case atStart => exact ⟨0, Nat.zero_le _, rfl, rfl, Below.refl _ _⟩
          case round =>
            obtain ⟨j, hj, rfl, rfl, hN⟩ := hrel
            by_cases hlt : j < f.kids.length
            · obtain ⟨g, cap', e5, hgB, hgw⟩ := World.ownsRow.form DD.out (by omega)
              cases e5
              have d1 := World.ownsRow.cellAt DD.out j (by omega)
              rw [strs_get, List.getElem?_map, List.getElem?_eq_getElem hlt, Option.map_some, Option.map_some] at d1
              have d2 := (hN.cell (p := ⟨g, j, none⟩) hgw).trans d1
              have ES := Lib.hid (f.ot_succ j hlt)
              have z1 := hol.out j hj
              have z2 : (f.kids[j]).dual.bytes.size ≤ 2002 := by
                rw [Fm.bytes_size]
                have h1 := (f.kids[j]).dual_len
                have h2 := Fm.kids_lt (f := f) _ (List.getElem_mem hlt)
                omega
              have HN := Lib.hid hN
              have SL := Lib.hid (hol.out (j + 1) (by omega))
              clear hN d1
              generalize (f.kids[j]).dual.bytes = X at *
              have n1 : ¬ (9223372036854775807 < (f.ot j).size + X.size) := by omega
              go_wp2_with fail
              go_roundw
              case rel => exact ⟨j + 1, by omega, by go_num, by rw [← ES.out], HN.out⟩
              case measure => simp [intOf]; omega
            · obtain rfl : j = f.kids.length := by omega
              have HG := Lib.hid (bthen HF.out hN)
              clear hN
              go_wp2_with fail
              go_ret
              exact ⟨by rw [HOT.out]; rfl, HG.out⟩
end Go.Proofs.YtleighihfgabkaaGreatDoor

/- O8:
  Formulas in the model: DualFormula, PutFormulas. -/
namespace Go.Proofs.YtleighihfgabkaaGreatDoor
open Go.RowKit
set_option linter.unusedVariables false
set_option linter.unusedSimpArgs false

/-- A text that is not too long, and the code. -/
def toldS (s : ByteArray) : ByteArray := if 60 < s.size then ⟨#[]⟩ else s
def toldC (s : ByteArray) : Int := if 60 < s.size then 3 else 0
set_option maxRecDepth 100000 in
set_option maxHeartbeats 2000000 in
theorem l05Told_any (s : ByteArray) (hs : s.size ≤ 1048576) (w : World) :
    Calls Tryz.prog 66 #[.string s] w fun e w' => e = .returned (.tuple #[.string (toldS s), .int .i64 (toldC s)]) ∧ w = w' := by
  unfold toldS toldC
  by_cases h : 60 < s.size
  · have c1 : decide ((60 : Int) < (s.size : Int)) = true := by simp; omega
    rw [if_pos h, if_pos h]
    go_enter Tryz.func66, Tryz.ntmps66
    go_wp2_with fail
    go_ret2
    exact ⟨rfl, rfl⟩
  · have c1 : decide ((60 : Int) < (s.size : Int)) = false := by simp; omega
    rw [if_neg h, if_neg h]
    go_enter Tryz.func66, Tryz.ntmps66
    go_wp2_with fail
    go_ret2
    exact ⟨rfl, rfl⟩
set_option maxRecDepth 100000 in
set_option maxHeartbeats 2000000 in
theorem specDualFormula_no {s : ByteArray} (hs : s.size ≤ 1048576) (h : isFm s = false) (w : World) :
    Calls Tryz.prog 21 #[.string s] w fun e w' => e = .returned (.tuple #[.string ⟨#[]⟩, .int .i64 6]) ∧ Below w.heap.size w w' := by
  have H := Lib.hid (l05Is_is hs h)
  clear h
  go_enter Tryz.func21, Tryz.ntmps21
  go_wp2_with (go_at_call 50; refine (H.out _).mono ?_; rintro e w' ⟨rfl, rfl⟩)
  go_ret2
  exact ⟨rfl, Below.refl _ _⟩
set_option maxRecDepth 100000 in
set_option maxHeartbeats 2000000 in
theorem specDualFormula_yes {f : Fm} (wf : f.wf) (h : f.txt.length ≤ 60) (w : World) :
    Calls Tryz.prog 21 #[.string f.bytes] w fun e w' => e = .returned (.tuple #[.string (toldS f.dual.bytes), .int .i64 (toldC f.dual.bytes)]) ∧ Below w.heap.size w w' := by
  have H := Lib.hid (l05Is_is (by rw [f.bytes_size]; omega) (fm_yes wf h))
  have S := Lib.hid (l05Dual_any 60 f wf h (by omega))
  have T := Lib.hid (l05Told_any f.dual.bytes (by rw [Fm.bytes_size]; have := f.dual_len; omega))
  go_enter Tryz.func21, Tryz.ntmps21
  go_wp2_with (first
    | (go_at_call 50; refine (H.out _).mono ?_; rintro e w' ⟨rfl, rfl⟩)
    | (go_at_call 72; refine (S.out _).mono ?_; rintro e w2 ⟨rfl, hb2⟩)
    | (go_at_call 66; refine (T.out _).mono ?_; rintro e w' ⟨rfl, rfl⟩))
  go_ret2
  exact ⟨rfl, hb2⟩
/-- A formula with the four formulas of a list put into it. -/
def putB (xs : List ByteArray) (c : UInt8) : List UInt8 := if 97 ≤ c.toNat ∧ c.toNat ≤ 100 then ((xs[c.toNat - 97]?).getD ⟨#[]⟩).data.toList else [c]
def putS (xs : List ByteArray) (l : List UInt8) : ByteArray := ⟨(l.flatMap (putB xs)).toArray⟩
theorem putS_snoc (xs : List ByteArray) (l : List UInt8) (c : UInt8) : putS xs (l ++ [c]) = putS xs l ++ ⟨(putB xs c).toArray⟩ := by
  apply ByteArray.ext
  simp [putS, ByteArray.data_append, List.flatMap_append]
theorem putS_size {xs : List ByteArray} (hx : ∀ i (h : i < xs.length), (xs[i]).size ≤ 60) (l : List UInt8) : (putS xs l).size ≤ 60 * l.length := by
  have key : ((l.flatMap (putB xs))).length ≤ 60 * l.length := by
    induction l with
    | nil => simp
    | cons c l ih =>
      have hc : (putB xs c).length ≤ 60 := by
        unfold putB
        split
        · by_cases h : c.toNat - 97 < xs.length
          · rw [List.getElem?_eq_getElem h, Option.getD_some, Array.length_toList]
            exact hx _ h
          · rw [List.getElem?_eq_none (by omega)]
            simp
        · simp
      rw [List.flatMap_cons, List.length_append, List.length_cons]
      omega
  have e : (putS xs l).size = (l.flatMap (putB xs)).length := by
    show (l.flatMap (putB xs)).toArray.size = _
    simp
  omega
theorem extract_one (s : ByteArray) (k : Nat) (h : k < s.size) : s.extract k (k + 1) = ⟨#[s[k]]⟩ := by
  apply ByteArray.ext
  rw [ByteArray.data_extract]
  apply Array.toList_inj.1
  rw [Array.toList_extract]
  show (s.data.toList.drop k).take (k + 1 - k) = [s[k]]
  rw [drop_byte s k h, show k + 1 - k = 1 by omega]
  rfl
/-- Are the first j of a list formulas? -/
def allFm (xs : List ByteArray) (j : Nat) : Bool := (xs.take j).all isFm
theorem allFm_no {xs : List ByteArray} {j : Nat} (h : j < xs.length) (hf : isFm xs[j] = false) : allFm xs xs.length = false := by
  unfold allFm
  rw [List.take_length, List.all_eq_false]
  exact ⟨xs[j], List.getElem_mem h, by rw [hf]; decide⟩
theorem allFm_get {xs : List ByteArray} (h : allFm xs xs.length = true) (j : Nat) (hj : j < xs.length) : isFm xs[j] = true := by
  unfold allFm at h
  rw [List.take_length, List.all_eq_true] at h
  exact h _ (List.getElem_mem hj)
set_option maxRecDepth 100000 in
set_option maxHeartbeats 2000000 in
theorem specPutFormulas_no {s : ByteArray} (hs : s.size ≤ 1048576) (h : isFm s = false) (v : Value) (w : World) :
    Calls Tryz.prog 18 #[.string s, v] w fun e w' => e = .returned (.tuple #[.string ⟨#[]⟩, .int .i64 6]) ∧ Below w.heap.size w w' := by
  have H := Lib.hid (l05Is_is hs h)
  clear h
  go_enter Tryz.func18, Tryz.ntmps18
  go_wp2_with (go_at_call 50; refine (H.out _).mono ?_; rintro e w' ⟨rfl, rfl⟩)
  go_ret2
  exact ⟨rfl, Below.refl _ _⟩
set_option maxRecDepth 100000 in
set_option maxHeartbeats 16000000 in
theorem specPutFormulas_yes {s : ByteArray} (hs : s.size ≤ 1048576) (h : isFm s = true) {base : Nat} {v : Value} {xs : List ByteArray} (hx : ∀ i (h : i < xs.length), (xs[i]).size ≤ 1048576) (hl : xs.length ≤ 1048576) (w : World) (ho : OwnsS w base v xs)
    {R : ByteArray} {c : Int} (hR : (allFm xs xs.length = false ∧ R = ⟨#[]⟩ ∧ c = 6) ∨ (allFm xs xs.length = true ∧ xs.length ≠ 4 ∧ R = ⟨#[]⟩ ∧ c = 2) ∨ (allFm xs xs.length = true ∧ xs.length = 4 ∧ R = toldS (putS xs s.data.toList) ∧ c = toldC (putS xs s.data.toList))) :
    Calls Tryz.prog 18 #[.string s, v] w fun e w' => e = .returned (.tuple #[.string R, .int .i64 c]) ∧ Below w.heap.size w w' := by
  have H := Lib.hid (l05Is_is hs h)
  have HR := Lib.hid hR
  obtain ⟨a, cap, hv, hc⟩ := ho.form
  have HC := Lib.hid hc
  have HX := Lib.hid hx
  have hs60 := (isFm_iff.1 h).1
  have hlen : s.data.toList.length ≤ s.size := Nat.le_of_eq Array.length_toList
  subst hv
  clear ho hc hR h hx
  go_enter Tryz.func18, Tryz.ntmps18
  go_wp2_with (go_at_call 50; refine (H.out _).mono ?_; rintro e w' ⟨rfl, rfl⟩)
  go_loopw [6] (fun i wr => ∃ j : Nat, j ≤ xs.length ∧ i = .int .i64 j ∧ w = wr ∧ Hid (∀ q (h : q < xs.length), q < j → isFm xs[q] = true)) (fun i _ => xs.length - (intOf i).toNat)
  case atStart => exact ⟨0, Nat.zero_le _, rfl, rfl, Lib.hid fun q _ h => by omega⟩
  case round =>
    obtain ⟨j, hj, rfl, rfl, HA⟩ := hrel
    by_cases hlt : j < xs.length
    · obtain ⟨g, rfl, hg, hcell⟩ := HC.out (by omega)
      have d1 := hcell j hlt
      cases hb : isFm xs[j]
      · have I := Lib.hid (l05Is_is (HX.out j hlt) hb)
        have E := Lib.hid (show R = ⟨#[]⟩ ∧ c = 6 by
          have hn := allFm_no hlt hb
          rcases HR.out with ⟨_, h1⟩ | ⟨h1, _⟩ | ⟨h1, _⟩
          · exact h1
          · rw [hn] at h1; cases h1
          · rw [hn] at h1; cases h1)
        clear hb hcell HR
        generalize xs[j] = X at *
        go_wp2_with (go_at_call 50; refine (I.out _).mono ?_; rintro e w' ⟨rfl, rfl⟩)
        go_ret2
        exact ⟨by rw [E.out.1, E.out.2]; rfl, Below.refl _ _⟩
      · have I := Lib.hid (l05Is_is (HX.out j hlt) hb)
        have HA2 : Hid (∀ q (h : q < xs.length), q < j + 1 → isFm xs[q] = true) := Lib.hid fun q hq hq2 => by
          by_cases e : q = j
          · subst e; exact hb
          · exact HA.out q hq (by omega)
        clear hb hcell HA
        generalize xs[j] = X at *
        go_wp2_with (go_at_call 50; refine (I.out _).mono ?_; rintro e w' ⟨rfl, rfl⟩)
        go_roundw
        case rel => exact ⟨j + 1, by omega, by go_num, (by first | exact True.intro | rfl), HA2⟩
        case measure => simp [intOf]; omega
    · obtain rfl : j = xs.length := by omega
      have hall : allFm xs xs.length = true := by
        unfold allFm
        rw [List.take_length, List.all_eq_true]
        intro y hy
        obtain ⟨q, hq, rfl⟩ := List.getElem_of_mem hy
        exact HA.out q hq hq
      by_cases h4 : xs.length = 4
      · have HS := Lib.hid (show R = toldS (putS xs s.data.toList) ∧ c = toldC (putS xs s.data.toList) by
          rcases HR.out with ⟨h1, _⟩ | ⟨_, h1, _⟩ | ⟨_, _, h1⟩
          · rw [hall] at h1; cases h1
          · exact absurd h4 h1
          · exact h1)
        have PZ := Lib.hid (putS_size (xs := xs) (fun i hi => (isFm_iff.1 (HA.out i hi hi)).1))
        obtain ⟨g, rfl, hg, hcell⟩ := HC.out (by omega)
        have DC := Lib.hid hcell
        have L4 := Lib.hid h4
        have c4 : ((xs.length : Int) != 4) = false := by simp [h4]
        clear hall h4 HA HR hcell HC H
        go_wp2_with fail
        go_loopw [7, 8] (fun m i wr => ∃ k : Nat, k ≤ s.size ∧ i = .int .i64 k ∧ m = .string (putS xs (s.data.toList.take k)) ∧ w = wr) (fun _ i _ => s.size - (intOf i).toNat)
        case atStart => exact ⟨0, Nat.zero_le _, rfl, rfl, rfl⟩
        case round =>
          obtain ⟨k, hk, rfl, rfl, rfl⟩ := hrel
          by_cases hlt : k < s.size
          · have T := Lib.hid (take_byte s k hlt)
            have PS := Lib.hid (putS_snoc xs (s.data.toList.take k) s[k])
            have z1 : (putS xs (s.data.toList.take k)).size ≤ 3600 := by
              have h1 := PZ.out (s.data.toList.take k)
              have h2 : (s.data.toList.take k).length ≤ 60 := by rw [List.length_take]; omega
              omega
            by_cases h1 : 97 ≤ s[k].toNat ∧ s[k].toNat ≤ 100
            · obtain ⟨h1, h2⟩ := h1
              obtain ⟨q, hq⟩ : ∃ q, s[k].toNat = 97 + q := ⟨s[k].toNat - 97, by omega⟩
              have hq4 : q < 4 := by omega
              have hqx : q < xs.length := by have := L4.out; omega
              have c1 : decide ((97 : Int) ≤ (s[k].toNat : Int)) = true := by simp; omega
              have c2 : decide ((s[k].toNat : Int) ≤ 100) = true := by simp; omega
              have eQ : IntKind.u8.wrap ((s[k].toNat : Int) - 97) = (q : Int) := by
                unfold IntKind.wrap
                simp [IntKind.bits, IntKind.signed]
                omega
              have d1 := DC.out q hqx
              have EB := Lib.hid (show (⟨(putB xs s[k]).toArray⟩ : ByteArray) = xs[q] by
                unfold putB
                rw [if_pos ⟨by omega, by omega⟩, show s[k].toNat - 97 = q by omega, List.getElem?_eq_getElem hqx]
                rfl)
              have z2 : (xs[q]).size ≤ 1048576 := HX.out q hqx
              have EP := Lib.hid (show putS xs (s.data.toList.take (k + 1)) = putS xs (s.data.toList.take k) ++ xs[q] by rw [T.out, PS.out, EB.out])
              clear EB hq h1 h2
              generalize xs[q] = X at *
              have n1 : ¬ (9223372036854775807 < (putS xs (s.data.toList.take k)).size + X.size) := by omega
              go_wp2_with fail
              go_roundw
              case rel => exact ⟨k + 1, by omega, by go_num, by rw [EP.out], (by first | exact True.intro | rfl)⟩
              case measure => simp [intOf]; omega
            · have EP := Lib.hid (show putS xs (s.data.toList.take (k + 1)) = putS xs (s.data.toList.take k) ++ s.extract k (k + 1) by
                rw [T.out, PS.out, extract_one s k hlt]
                congr 1
                unfold putB
                rw [if_neg h1])
              have z2 : (s.extract k (k + 1)).size ≤ 1 := by rw [ByteArray.size_extract]; omega
              have n1 : ¬ (9223372036854775807 < (putS xs (s.data.toList.take k)).size + (s.extract k (k + 1)).size) := by omega
              have eK : IntKind.i64.wrap ((k : Int) + 1) = ((k + 1 : Nat) : Int) := by rw [wrap64_small (by omega) (by omega)]; omega
              by_cases h2 : 97 ≤ s[k].toNat
              · have c1 : decide ((97 : Int) ≤ (s[k].toNat : Int)) = true := by simp; omega
                have c2 : decide ((s[k].toNat : Int) ≤ 100) = false := by simp; omega
                clear h1 h2
                go_wp2_with fail
                go_roundw
                case rel => exact ⟨k + 1, by omega, by go_num, by rw [EP.out], (by first | exact True.intro | rfl)⟩
                case measure => simp [intOf]; omega
              · have c1 : decide ((97 : Int) ≤ (s[k].toNat : Int)) = false := by simp; omega
                clear h1 h2
                go_wp2_with fail
                go_roundw
                case rel => exact ⟨k + 1, by omega, by go_num, by rw [EP.out], (by first | exact True.intro | rfl)⟩
                case measure => simp [intOf]; omega
          · obtain rfl : k = s.size := by omega
            have e : s.data.toList.take s.size = s.data.toList := List.take_of_length_le hlen
            rw [e]
            have z1 : (putS xs s.data.toList).size ≤ 3600 := by
              have h1 := PZ.out s.data.toList
              omega
            have TD := Lib.hid (l05Told_any (putS xs s.data.toList) (by omega))
            clear e hlen PZ
            go_wp2_with (go_at_call 66; refine (TD.out _).mono ?_; rintro e w' ⟨rfl, rfl⟩)
            go_ret2
            exact ⟨by rw [HS.out.1, HS.out.2]; rfl, Below.refl _ _⟩
      · have E := Lib.hid (show R = ⟨#[]⟩ ∧ c = 2 by
          rcases HR.out with ⟨h1, _⟩ | ⟨_, _, h1⟩ | ⟨_, h1, _⟩
          · rw [hall] at h1; cases h1
          · exact h1
          · exact absurd h1 h4)
        have c4 : ((xs.length : Int) != 4) = true := by simp; omega
        clear hall h4 HA HR
        go_wp2_with fail
        go_ret2
        exact ⟨by rw [E.out.1, E.out.2]; rfl, Below.refl _ _⟩
end Go.Proofs.YtleighihfgabkaaGreatDoor
