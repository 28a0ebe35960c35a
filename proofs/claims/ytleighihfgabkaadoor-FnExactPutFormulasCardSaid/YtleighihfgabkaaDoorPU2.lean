/-
  PutFormulas of the program.
-/
import Derived.Test.YtleighihfgabkaaDoorPU1
import Derived.Test.YtleighihfgabkaaDoorFDualFormula
namespace Go.Proofs.YtleighihfgabkaaDoor
open Go.RowKit
set_option linter.unusedVariables false
set_option linter.unusedSimpArgs false
set_option maxRecDepth 100000 in
set_option maxHeartbeats 4000000 in
theorem implPutFormulas_no {s : ByteArray} (h : isFm s = false) (v : Value) {ad : Addr} (w : World) (hE : ErrAt w ad) :
    Calls Tryd.prog 32 #[.string s, v] w fun e w' => e = .returned (.tuple #[.string ⟨#[]⟩, .int .i64 6]) ∧ Below w.heap.size w w' := by
  have I := Lib.hid (implIsFormula_any s w hE)
  rw [h] at I
  clear h
  go_enter Tryd.func32, Tryd.ntmps32
  go_wp2_with (go_at_call 14; refine (I.out).mono ?_; rintro e w2 ⟨rfl, hb⟩)
  go_ret2
  exact ⟨rfl, hb⟩
set_option maxRecDepth 100000 in
set_option maxHeartbeats 4000000 in
theorem implPutFormulas_yes {s : ByteArray} (h : isFm s = true) {base : Nat} {v : Value} {xs : List ByteArray} (hl : xs.length ≤ 1048576) {ad : Addr} (w : World) (hE : ErrAt w ad) (ho : OwnsS w base v xs)
    {R : ByteArray} {c : Int} (hR : (allFm xs xs.length = false ∧ R = ⟨#[]⟩ ∧ c = 6) ∨ (allFm xs xs.length = true ∧ xs.length ≠ 4 ∧ R = ⟨#[]⟩ ∧ c = 2) ∨ (allFm xs xs.length = true ∧ xs.length = 4 ∧ R = toldS (putS xs s.data.toList) ∧ c = toldC (putS xs s.data.toList))) :
    Calls Tryd.prog 32 #[.string s, v] w fun e w' => e = .returned (.tuple #[.string R, .int .i64 c]) ∧ Below w.heap.size w w' := by
  have I := Lib.hid (implIsFormula_any s w hE)
  have hs60 := (isFm_iff.1 h).1
  rw [h] at I
  have AF := Lib.hid (fun w' (hb : Below w.heap.size w w') => areFormulas_any hl w' (ho.below hb) (hE.below hb))
  obtain ⟨a, cap, hv, _⟩ := ho.cellsS
  have HO := Lib.hid (fun w' (hb : Below w.heap.size w w') => ho.below hb)
  clear ho h
  rcases hR with ⟨h1, rfl, rfl⟩ | ⟨h1, h4, rfl, rfl⟩ | ⟨h1, h4, rfl, rfl⟩
  · subst hv
    rw [h1] at AF
    go_enter Tryd.func32, Tryd.ntmps32
    go_wp2_with (first
      | (go_at_call 14; refine (I.out).mono ?_; rintro e w2 ⟨rfl, hb⟩)
      | (go_at_call 61; refine (AF.out _ hb).mono ?_; rintro e w3 ⟨rfl, hb3⟩))
    go_ret2
    exact ⟨rfl, bthen hb hb3⟩
  · subst hv
    rw [h1] at AF
    have c4 : ((xs.length : Int) == 4) = false := by simp; omega
    have c4' : ((xs.length : Int) != 4) = true := by simp; omega
    go_enter Tryd.func32, Tryd.ntmps32
    go_wp2_with (first
      | (go_at_call 14; refine (I.out).mono ?_; rintro e w2 ⟨rfl, hb⟩)
      | (go_at_call 61; refine (AF.out _ hb).mono ?_; rintro e w3 ⟨rfl, hb3⟩))
    go_ret2
    exact ⟨rfl, bthen hb hb3⟩
  · rw [h4] at hv
    subst hv
    rw [h1] at AF
    have PI := Lib.hid (fun w' (hb : Below w.heap.size w w') => putInto_any h4 (fun i hi => (isFm_iff.1 (allFm_get h1 i hi)).1) hs60 w' (HO.out w' hb))
    generalize putS xs s.data.toList = R0 at PI ⊢
    have WL := Lib.hid (fun w => withinLimit_any R0 w)
    generalize toldS R0 = R1 at WL ⊢
    generalize toldC R0 = R2 at WL ⊢
    clear h4 h1
    go_enter Tryd.func32, Tryd.ntmps32
    go_wp2_with (first
      | (go_at_call 14; refine (I.out).mono ?_; rintro e w2 ⟨rfl, hb⟩)
      | (go_at_call 61; refine (AF.out _ hb).mono ?_; rintro e w3 ⟨rfl, hb3⟩; have hb4 := bthen hb hb3)
      | (go_at_call 62; refine (PI.out _ hb4).mono ?_; rintro e w5 ⟨rfl, hb5⟩)
      | (go_at_call 59; refine (WL.out _).mono ?_; rintro e w6 ⟨rfl, rfl⟩))
    go_ret2
    exact ⟨rfl, bthen hb4 hb5⟩
theorem bothPutFormulas (s : ByteArray) (hs : s.size ≤ 1048576) (xs : List ByteArray) (hx : ∀ i (h : i < xs.length), (xs[i]).size ≤ 1048576) (hl : xs.length ≤ 1048576) {ad : Addr} : ∃ (R : ByteArray) (rc : Int),
    (∀ base v w, OwnsS w base v xs → Calls Tryd.prog 30 #[.string s, v] w fun e w' => e = .returned (.tuple #[.string R, .int .i64 rc]) ∧ Below w.heap.size w w') ∧
    (∀ base v w, OwnsS w base v xs → ErrAt w ad → Calls Tryd.prog 32 #[.string s, v] w fun e w' => e = .returned (.tuple #[.string R, .int .i64 rc]) ∧ Below w.heap.size w w') := by
  cases h : isFm s
  · exact ⟨_, 6, fun base v w _ => specPutFormulas_no hs h v w, fun base v w _ hE => implPutFormulas_no h v w hE⟩
  · have key : ∃ (R : ByteArray) (c : Int), (allFm xs xs.length = false ∧ R = ⟨#[]⟩ ∧ c = 6) ∨ (allFm xs xs.length = true ∧ xs.length ≠ 4 ∧ R = ⟨#[]⟩ ∧ c = 2) ∨ (allFm xs xs.length = true ∧ xs.length = 4 ∧ R = toldS (putS xs s.data.toList) ∧ c = toldC (putS xs s.data.toList)) := by
      cases h1 : allFm xs xs.length
      · exact ⟨_, _, .inl ⟨rfl, rfl, rfl⟩⟩
      · by_cases h4 : xs.length = 4
        · exact ⟨_, _, .inr (.inr ⟨rfl, h4, rfl, rfl⟩)⟩
        · exact ⟨_, _, .inr (.inl ⟨rfl, h4, rfl, rfl⟩)⟩
    obtain ⟨R, c, hR⟩ := key
    exact ⟨R, c, fun base v w ho => specPutFormulas_yes hs h hx hl w ho hR, fun base v w ho hE => implPutFormulas_yes h hl w hE ho hR⟩
end Go.Proofs.YtleighihfgabkaaDoor
