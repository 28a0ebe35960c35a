/-
  Chapter 7 of the program: rows, lists of rows, a row above one of a list.
-/
import Derived.Test.YtcolaggkeekgoaaMO2
import Derived.Test.YtcolaggkeekgoaaL3
import Derived.Test.YtcolaggkeekgoaaIR
namespace Go.Proofs.Ytcolaggkeekgoaa
open Go.RowKit
set_option linter.unusedVariables false
set_option linter.unusedSimpArgs false

/-- All of a list are rows. -/
def rowsB (R : Nat) (xs : List Int) : Bool := xs.all fun v => inB v 0 ((R : Int) - 1)

set_option maxRecDepth 100000 in
set_option maxHeartbeats 1000000 in
theorem areRows_any {n : Int} {R : Nat} (h0 : 0 ≤ n) (h4 : n ≤ 4) (r0 : 0 < R) (r16 : R ≤ 16) (hR : Hid (rowsN n = (R : Int))) {base : Nat} {s : Value} {xs : List Int} (hl : xs.length ≤ 1048576) {b : Bool} (hb : rowsB R xs = b) (w : World) (h : Owns w base s xs) :
    Calls Try.prog 65 #[.int .i64 n, s] w fun e w' => e = .returned (.bool b) ∧ w = w' := by
  subst hb
  unfold rowsB
  rcases h.shape with ⟨rfl, a, cap, rfl⟩ | ⟨hn, g, cap, rfl, hbg, hg, hc, hf⟩
  · go_enter Try.func65, Try.ntmps65
    go_wp2
    refine wp_loop_rounds 1 ?_
    rw [rounds_succ]
    go_wp2
    go_ret
    exact ⟨rfl, rfl⟩
  · clear h hf
    have hall : ∀ k, k ≤ xs.length → (∀ j, j < k → inB (xs[j]?.getD 0) 0 ((R : Int) - 1) = true) → (k = xs.length → (xs.all fun v => inB v 0 ((R : Int) - 1)) = true) := by
      intro k _ h1 h2
      rw [List.all_eq_true]
      intro v hv
      obtain ⟨j, hj, rfl⟩ := List.mem_iff_getElem.1 hv
      have := h1 j (by omega)
      rwa [List.getElem?_eq_getElem hj] at this
    have hnot : ∀ k, k < xs.length → inB (xs[k]?.getD 0) 0 ((R : Int) - 1) = false → (xs.all fun v => inB v 0 ((R : Int) - 1)) = false := by
      intro k hk h1
      rw [List.all_eq_false]
      exact ⟨xs[k], List.getElem_mem hk, by rw [List.getElem?_eq_getElem hk] at h1; simpa using h1⟩
    generalize hA : (xs.all fun v => inB v 0 ((R : Int) - 1)) = A at hall hnot ⊢
    have HALL := Lib.hid hall
    have HNOT := Lib.hid hnot
    clear hall hnot hA
    generalize xs.length = m at hl hn hc HALL HNOT ⊢
    go_enter Try.func65, Try.ntmps65
    go_wp2
    go_loop [9] (fun i' => ∃ i : Nat, i ≤ m ∧ i' = .int .i64 i ∧ Hid (∀ j, j < i → inB (xs[j]?.getD 0) 0 ((R : Int) - 1) = true)) (fun i' => m - (intOf i').toNat)
    case atStart => exact ⟨0, Nat.zero_le _, rfl, Lib.hid (fun j hj => by omega)⟩
    case round =>
      obtain ⟨i, hi, rfl, HI⟩ := hrel
      by_cases hlt : i < m
      · have hu := hc.out i hlt
        cases hb : inB (xs[i]?.getD 0) 0 ((R : Int) - 1)
        · have hA := Lib.hid (HNOT.out i hlt hb)
          go_wp2_with (go_at_call 52; refine (isRow_is h0 h4 r0 r16 hR hb _).mono ?_; rintro e w' ⟨rfl, rfl⟩)
          go_ret
          exact ⟨by rw [hA.out]; rfl, rfl⟩
        · have HI2 : Hid (∀ j, j < i + 1 → inB (xs[j]?.getD 0) 0 ((R : Int) - 1) = true) := Lib.hid (fun j hj => by
            by_cases hji : j = i
            · rw [hji]; exact hb
            · exact HI.out j (by omega))
          go_wp2_with (go_at_call 52; refine (isRow_is h0 h4 r0 r16 hR hb _).mono ?_; rintro e w' ⟨rfl, rfl⟩)
          go_round
          case rel => exact ⟨i + 1, by omega, by go_num, HI2⟩
          case measure => simp [intOf]; omega
      · obtain rfl : i = m := by omega
        have hA := Lib.hid (HALL.out i (Nat.le_refl _) HI.out rfl)
        go_wp2
        go_ret
        exact ⟨by rw [hA.out]; rfl, rfl⟩

/-- r is above one of the first k. -/
def abTo (r : Nat) (l : List Nat) (k : Nat) : Bool := abv r (l.take k)
theorem abTo_succ {r : Nat} {l : List Nat} {k : Nat} (hk : k < l.length) : abTo r l (k + 1) = (abTo r l k || inR r (l[k]?.getD 0)) := by
  unfold abTo abv
  rw [List.take_succ_eq_append_getElem hk, List.any_append, List.getElem?_eq_getElem hk]
  simp
theorem abTo_all (r : Nat) (l : List Nat) : abTo r l l.length = abv r l := by unfold abTo; rw [List.take_length]
theorem abTo_true {r : Nat} {l : List Nat} {k : Nat} (hk : k < l.length) (h : inR r (l[k]?.getD 0) = true) : abv r l = true := by
  rw [List.getElem?_eq_getElem hk] at h
  exact abv_iff.2 ⟨l[k], List.getElem_mem hk, h⟩
theorem in_bits {r o : Nat} (hr : r < 62) (ho : o < 62) : (bits .and .i64 (r : Int) (o : Int) == (o : Int)) = inR r o := by
  rw [bits_and_i64 r o (by omega) (by omega), beq_cast]; rfl

set_option maxRecDepth 100000 in
set_option maxHeartbeats 1000000 in
theorem isAboveOne_any {base : Nat} {s : Value} {l : List Nat} (hl : l.length ≤ 1048576) (hm : ∀ o ∈ l, o < 62) (r : Nat) (hr : r < 62) {b : Bool} (hb : abv r l = b) (w : World) (h : Owns w base s (nL l)) :
    Calls Try.prog 68 #[.int .i64 (r : Int), s] w fun e w' => e = .returned (.bool b) ∧ w = w' := by
  subst hb
  rcases h.shape with ⟨he, a, cap, rfl⟩ | ⟨hn, g, cap, rfl, hbg, hg, hc, hf⟩
  · have e0 : l = [] := by cases l with
      | nil => rfl
      | cons a l => cases he
    subst e0
    clear he
    go_enter Try.func68, Try.ntmps68
    go_wp2
    refine wp_loop_rounds 1 ?_
    rw [rounds_succ]
    go_wp2
    go_ret
    exact ⟨rfl, rfl⟩
  · clear h hf
    rw [nL_length] at hn hc ⊢
    have hC := Lib.hid (fun j (hj : j < l.length) => (hc.out j hj).trans (by rw [nL_get l j hj]))
    have hG := Lib.hid (fun j (hj : j < l.length) => (show l[j]?.getD 0 < 62 by rw [List.getElem?_eq_getElem hj]; exact hm _ (List.getElem_mem hj)))
    have hS := Lib.hid (fun k (hk : k < l.length) => abTo_succ (r := r) hk)
    have hT := Lib.hid (fun k (hk : k < l.length) => abTo_true (r := r) hk)
    have hA := Lib.hid (abTo_all r l)
    clear hc
    generalize l.length = m at hl hn hC hG hS hT hA ⊢
    generalize abv r l = B at hT hA ⊢
    go_enter Try.func68, Try.ntmps68
    go_wp2
    go_loop [9] (fun i' => ∃ i : Nat, i ≤ m ∧ i' = .int .i64 i ∧ Hid (abTo r l i = false)) (fun i' => m - (intOf i').toNat)
    case atStart => exact ⟨0, Nat.zero_le _, rfl, Lib.hid rfl⟩
    case round =>
      obtain ⟨i, hi, rfl, HI⟩ := hrel
      by_cases hlt : i < m
      · have hu := hC.out i hlt
        have ho := hG.out i hlt
        have HS := Lib.hid (hS.out i hlt)
        have HT := Lib.hid (hT.out i hlt)
        generalize l[i]?.getD 0 = o at hu ho HS HT
        have HB := in_bits hr ho
        cases hx : inR r o
        · rw [hx] at HB
          have HI2 := Lib.hid (show abTo r l (i + 1) = false by rw [HS.out, HI.out, hx]; rfl)
          clear hx HS HT
          go_wp2
          go_round
          case rel => exact ⟨i + 1, by omega, by go_num, HI2⟩
          case measure => simp [intOf]; omega
        · rw [hx] at HB
          have HA := Lib.hid (HT.out hx)
          clear hx HS HT
          go_wp2
          go_ret
          exact ⟨by rw [HA.out]; rfl, rfl⟩
      · obtain rfl : i = m := by omega
        have HA := Lib.hid (hA.out.symm.trans HI.out)
        go_wp2
        go_ret
        exact ⟨by rw [HA.out]; rfl, rfl⟩

set_option maxHeartbeats 1000000 in
theorem digitIf_any (b : Bool) (w : World) :
    Calls Try.prog 67 #[.bool b] w fun e w' => e = .returned (.int .i64 (b.toNat : Int)) ∧ w = w' := by
  cases b
  all_goals
    go_enter Try.func67, Try.ntmps67
    go_wp2
    go_ret
    exact ⟨rfl, rfl⟩
end Go.Proofs.Ytcolaggkeekgoaa
