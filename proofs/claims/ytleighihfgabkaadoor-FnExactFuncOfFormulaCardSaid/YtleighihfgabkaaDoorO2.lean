/-
  Formulas in the model: places of bytes, the end of a formula, what is a formula.
-/
import Derived.Test.YtleighihfgabkaaDoorR2
import Derived.Test.YtleighihfgabkaaDoorO1
namespace Go.Proofs.YtleighihfgabkaaDoor
open Go.RowKit
set_option linter.unusedVariables false
set_option linter.unusedSimpArgs false

/-- The places, -1 for a byte that is none. -/
def plI (c : UInt8) : Int := match plc c with | some k => (k : Int) | none => -1
def plZ (z : Int) : Int := if z = 97 ∨ z = 98 ∨ z = 99 ∨ z = 100 ∨ z = 48 ∨ z = 49 then 0 else if z = 33 then 1 else if z = 38 ∨ z = 124 ∨ z = 94 then 2 else if z = 63 ∨ z = 77 then 3 else -1
theorem plI_all : ∀ k < 256, plI (UInt8.ofNat k) = plZ ((k : Nat) : Int) := by decide +kernel
theorem plI_is (c : UInt8) : plI c = plZ (c.toNat : Int) := by
  have h := plI_all c.toNat (UInt8.toNat_lt c)
  rwa [UInt8.ofNat_toNat] at h
set_option maxRecDepth 100000 in
set_option maxHeartbeats 4000000 in
theorem l05Places_any (c : UInt8) (w : World) :
    Calls Tryd.prog 78 #[.int .u8 (c.toNat : Int)] w fun e w' => e = .returned (.int .i64 (plI c)) ∧ w = w' := by
  rw [plI_is]
  generalize (c.toNat : Int) = z
  obtain ⟨p, hp⟩ : ∃ p, plZ z = p := ⟨_, rfl⟩
  rw [hp]
  have HP := Lib.hid hp
  clear hp
  go_enter Tryd.func78, Tryd.ntmps78
  go_wp2_with fail
  all_goals go_ret
  all_goals refine ⟨?_, rfl⟩
  all_goals rw [← HP.out]
  all_goals clear HP
  all_goals unfold plZ
  all_goals simp_all

theorem plc_le {c : UInt8} {k : Nat} (h : plc c = some k) : k ≤ 3 := by
  unfold plc at h
  split at h
  · cases h; decide
  · split at h
    · cases h; decide
    · split at h
      · cases h; decide
      · split at h
        · cases h; decide
        · cases h
theorem plI_some {c : UInt8} {k : Nat} (h : plc c = some k) : plI c = (k : Int) := by unfold plI; rw [h]
theorem plI_none {c : UInt8} (h : plc c = none) : plI c = -1 := by unfold plI; rw [h]
/-- Where j formulas end that begin at a place. -/
def rdK (s : ByteArray) : Nat → Nat → Option Nat
  | 0, a => some a
  | j + 1, a => match rdF (s.data.toList.drop a) with
    | some p => rdK s j (a + p.1.txt.length)
    | none => none
/-- Where the formula ends that begins at a place. -/
def endI (s : ByteArray) (a : Nat) : Int := match rdF (s.data.toList.drop a) with
  | some p => ((a + p.1.txt.length : Nat) : Int)
  | none => -1
def endK (o : Option Nat) : Int := match o with
  | some e => (e : Int)
  | none => -1
theorem drop_rest {l : List UInt8} {a : Nat} {f : Fm} {k : List UInt8} (h : l.drop a = f.txt ++ k) : k = l.drop (a + f.txt.length) := by
  rw [← List.drop_drop, h, List.drop_left]
theorem rdF_le {s : ByteArray} {a : Nat} {p : Fm × List UInt8} (h : rdF (s.data.toList.drop a) = some p) : a + p.1.txt.length ≤ s.size := by
  have h1 := (rdF_some.1 h).1
  have h2 := congrArg List.length h1
  have h3 := p.1.txt_pos
  rw [List.length_drop, List.length_append, Array.length_toList] at h2
  have : s.data.size = s.size := rfl
  omega
theorem endI_byte {s : ByteArray} {a : Nat} {c : UInt8} {K : Nat} (h : s.data.toList.drop a = c :: s.data.toList.drop (a + 1)) (hc : plc c = some K) : endI s a = endK (rdK s K (a + 1)) := by
  have hk := plc_le hc
  unfold endI
  rw [h]
  rcases (show K = 0 ∨ K = 1 ∨ K = 2 ∨ K = 3 by omega) with rfl | rfl | rfl | rfl
  · rw [rdF_zero hc]; rfl
  · rw [rdF_one hc]
    simp only [rdK]
    cases e : rdF (s.data.toList.drop (a + 1)) with
    | none => rfl
    | some p => simp only [Option.map_some, endK, Fm.txt, List.length_cons]; omega
  · rw [rdF_two hc]
    simp only [rdK]
    cases e : rdF (s.data.toList.drop (a + 1)) with
    | none => rfl
    | some p =>
      have e1 := drop_rest (rdF_some.1 e).1
      simp only [Option.bind_some]
      rw [← e1]
      cases e2 : rdF p.2 with
      | none => rfl
      | some q => simp only [Option.map_some, endK, Fm.txt, List.length_cons, List.length_append]; omega
  · rw [rdF_three hc]
    simp only [rdK]
    cases e : rdF (s.data.toList.drop (a + 1)) with
    | none => rfl
    | some p =>
      have e1 := drop_rest (rdF_some.1 e).1
      simp only [Option.bind_some]
      rw [← e1]
      cases e2 : rdF p.2 with
      | none => rfl
      | some q =>
        have e3 := drop_rest (show s.data.toList.drop (a + 1 + p.1.txt.length) = q.1.txt ++ q.2 by rw [← e1]; exact (rdF_some.1 e2).1)
        simp only [Option.bind_some]
        rw [← e3]
        cases e4 : rdF q.2 with
        | none => rfl
        | some r => simp only [Option.map_some, endK, Fm.txt, List.length_cons, List.length_append]; omega
theorem drop_byte (s : ByteArray) (a : Nat) (h : a < s.size) : s.data.toList.drop a = s[a] :: s.data.toList.drop (a + 1) := by
  rw [List.drop_eq_getElem_cons (by rw [Array.length_toList]; exact h)]
  rfl
set_option maxRecDepth 100000 in
set_option maxHeartbeats 8000000 in
theorem l05End_any (s : ByteArray) (hs : s.size ≤ 1048576) : ∀ (k a : Nat), a ≤ s.size → s.size - a ≤ k → ∀ w,
    Calls Tryd.prog 73 #[.string s, .int .i64 (a : Int)] w fun e w' => e = .returned (.int .i64 (endI s a)) ∧ w = w' := by
  intro k
  induction k with
  | zero =>
    intro a ha hk w
    obtain rfl : a = s.size := by omega
    have e : endI s s.size = -1 := by
      unfold endI
      rw [List.drop_eq_nil_of_le (by rw [Array.length_toList]; exact Nat.le_refl _)]
      rfl
    rw [e]
    go_enter Tryd.func73, Tryd.ntmps73
    go_wp2_with fail
    go_ret
    exact ⟨rfl, rfl⟩
  | succ k ih =>
    intro a ha hk w
    by_cases hlt : a < s.size
    · have hb := drop_byte s a hlt
      have eN : IntKind.i64.wrap ((a : Int) + 1) = ((a + 1 : Nat) : Int) := by rw [wrap64_small (by omega) (by omega)]; omega
      cases hc : plc s[a] with
      | none =>
        have e : endI s a = -1 := by unfold endI; rw [hb, rdF_bad hc]
        have e2 := plI_none hc
        rw [e]
        clear hb hc e
        go_enter Tryd.func73, Tryd.ntmps73
        go_wp2_with (go_at_call 78; refine (l05Places_any _ _).mono ?_; rintro e w' ⟨rfl, rfl⟩)
        go_ret
        exact ⟨rfl, rfl⟩
      | some K =>
        have hK := plc_le hc
        have e2 := plI_some hc
        rw [endI_byte hb hc]
        obtain ⟨X, hX⟩ : ∃ X, rdK s K (a + 1) = X := ⟨_, rfl⟩
        rw [hX]
        have HX := Lib.hid hX
        clear hb hc hX
        go_enter Tryd.func73, Tryd.ntmps73
        go_wp2_with (go_at_call 78; refine (l05Places_any _ _).mono ?_; rintro e w' ⟨rfl, rfl⟩)
        go_loop [1, 5] (fun x y => ∃ (j a' : Nat), y = .int .i64 j ∧ x = .int .i64 a' ∧ (j ≤ 3 ∧ a < a' ∧ a' ≤ s.size) ∧ Hid (rdK s j a' = X)) (fun _ y => (intOf y).toNat)
        case atStart => exact ⟨K, a + 1, rfl, rfl, ⟨hK, by omega, by omega⟩, HX⟩
        case round =>
          obtain ⟨j, a', rfl, rfl, ⟨hj, ha1, ha2⟩, HJ⟩ := hrel
          cases j with
          | zero =>
            have E3 := Lib.hid (show X = some a' from HJ.out.symm)
            clear HJ HX
            go_wp2_with fail
            go_ret
            exact ⟨by (rw [E3.out]) <;> rfl, rfl⟩
          | succ j =>
            have I := Lib.hid (fun w => ih a' (by omega) (by omega) w)
            have hd : decide ((0 : Int) < ((j + 1 : Nat) : Int)) = true := by simp
            have eJ : IntKind.i64.wrap (((j + 1 : Nat) : Int) - 1) = (j : Int) := by rw [wrap64_small (by omega) (by omega)]; omega
            cases hr : rdF (s.data.toList.drop a') with
            | none =>
              have e3 : X = none := by
                have h := HJ.out
                unfold rdK at h
                rw [hr] at h
                exact h.symm
              have e4 : endI s a' = -1 := by unfold endI; rw [hr]
              rw [e4] at I
              clear HJ HX hr e4
              have E3 := Lib.hid e3
              clear e3
              go_wp2_with (go_at_call 73; refine (I.out _).mono ?_; rintro e w' ⟨rfl, rfl⟩)
              go_ret
              exact ⟨by (rw [E3.out]) <;> rfl, rfl⟩
            | some p =>
              have e3 : rdK s j (a' + p.1.txt.length) = X := by
                have h := HJ.out
                unfold rdK at h
                rw [hr] at h
                exact h
              have e4 : endI s a' = ((a' + p.1.txt.length : Nat) : Int) := by unfold endI; rw [hr]
              have hle := rdF_le hr
              rw [e4] at I
              obtain ⟨a2, ha2'⟩ : ∃ a2, a' + p.1.txt.length = a2 := ⟨_, rfl⟩
              rw [ha2'] at I e3 hle
              have h5 : a < a2 := by omega
              have E3 := Lib.hid e3
              clear e3 HJ HX hr e4 ha2'
              go_wp2_with (go_at_call 73; refine (I.out _).mono ?_; rintro e w' ⟨rfl, rfl⟩)
              go_round
              case rel => exact ⟨j, a2, rfl, rfl, ⟨by omega, h5, hle⟩, E3⟩
              case measure => simp [intOf]
    · obtain rfl : a = s.size := by omega
      have e : endI s s.size = -1 := by
        unfold endI
        rw [List.drop_eq_nil_of_le (by rw [Array.length_toList]; exact Nat.le_refl _)]
        rfl
      rw [e]
      go_enter Tryd.func73, Tryd.ntmps73
      go_wp2_with fail
      go_ret
      exact ⟨rfl, rfl⟩
end Go.Proofs.YtleighihfgabkaaDoor
