/-
  The texts CN38, CN39, FIsBelow in one.
-/
import Derived.Test.YthjgkgknlecjlaaGreatDoorMPIsInNamed9

/- CN38:
  IsBelow in both packages. -/
namespace Go.Proofs.YthjgkgknlecjlaaGreatDoor
open Go.RowKit Go.Shelf
set_option linter.unusedVariables false
set_option linter.unusedSimpArgs false

/-- The functions of one list, each in the named clone. -/
def belB (p q : Nat × Nat) : Bool := allLt (gnL p).length fun i => inNm q (fget (gnL p) i).1 (fget (gnL p) i).2
theorem bel_no {xs : List (Int × Int)} {q : Nat × Nat} {i : Nat} (hi : i < xs.length) (h : inNm q (fget xs i).1 (fget xs i).2 = false) : allLt xs.length (fun i => inNm q (fget xs i).1 (fget xs i).2) = false := by
  cases e : allLt xs.length (fun i => inNm q (fget xs i).1 (fget xs i).2)
  · rfl
  · rw [allLt_iff] at e
    rw [e i hi] at h
    cases h

theorem gens_is {s : ByteArray} (hb : s.size ≤ 1048576) (ok : Bool) (hok : (clFind s).isSome = ok) (w : World) : Calls Tryz.prog 14 #[.string s] w fun e w' => ∃ v, e = .returned (.tuple #[v, .bool ok]) ∧ Below w.heap.size w w' := by
  cases hs : clFind s with
  | none => rw [hs] at hok; subst hok; exact (gens_none hb hs w).mono (by rintro e w' ⟨rfl, h⟩; exact ⟨_, rfl, h⟩)
  | some p => rw [hs] at hok; subst hok; exact (gens_some hb hs w).mono (by rintro e w' ⟨v, rfl, _, h⟩; exact ⟨_, rfl, h⟩)

set_option maxRecDepth 100000 in
set_option maxHeartbeats 4000000 in
theorem specIsBelow_no {a b : ByteArray} (ha : a.size ≤ 1048576) (hb : b.size ≤ 1048576) (h : clFind a = none ∨ clFind b = none) (w : World) :
    Calls Tryz.prog 9 #[.string a, .string b] w fun e w' => e = .returned (.tuple #[.bool false, .int .i64 6]) ∧ Below w.heap.size w w' := by
  obtain ⟨oa, hoa⟩ : ∃ oa, (clFind a).isSome = oa := ⟨_, rfl⟩
  obtain ⟨ob, hob⟩ : ∃ ob, (clFind b).isSome = ob := ⟨_, rfl⟩
  have hor : oa = false ∨ ob = false := by
    rcases h with h | h
    · left; rw [← hoa, h]; rfl
    · right; rw [← hob, h]; rfl
  have GA := Lib.hid (fun W => gens_is ha oa hoa W)
  have GB := Lib.hid (fun W => gens_is hb ob hob W)
  clear h hoa hob
  rcases hor with rfl | rfl
  · go_enter Tryz.func9, Tryz.ntmps9
    go_wp2_with (first
      | (go_at_call 14; with_reducible refine (GA.out _).mono ?_; rintro e w2 ⟨va, rfl, hb2⟩)
      | (go_at_call 14; with_reducible refine (GB.out _).mono ?_; rintro e w3 ⟨vb, rfl, hb3⟩))
    exact bodyPost_ret (v := .tuple #[.bool false, .int .i64 6]) (by simp [results, Tryz.results9, go_sem]) rfl ⟨rfl, bthen hb2 hb3⟩
  · cases oa
    all_goals
      go_enter Tryz.func9, Tryz.ntmps9
      go_wp2_with (first
        | (go_at_call 14; with_reducible refine (GA.out _).mono ?_; rintro e w2 ⟨va, rfl, hb2⟩)
        | (go_at_call 14; with_reducible refine (GB.out _).mono ?_; rintro e w3 ⟨vb, rfl, hb3⟩))
      exact bodyPost_ret (v := .tuple #[.bool false, .int .i64 6]) (by simp [results, Tryz.results9, go_sem]) rfl ⟨rfl, bthen hb2 hb3⟩

set_option maxRecDepth 100000 in
set_option maxHeartbeats 4000000 in
theorem specIsBelow_yes {a b : ByteArray} (ha : a.size ≤ 1048576) (hb : b.size ≤ 1048576) {p q : Nat × Nat} (hp : clFind a = some p) (hq : clFind b = some q) (w : World) :
    Calls Tryz.prog 9 #[.string a, .string b] w fun e w' => e = .returned (.tuple #[.bool (belB p q), .int .i64 0]) ∧ Below w.heap.size w w' := by
  have GA := Lib.hid (fun W => gens_some ha hp W)
  have GB := Lib.hid (fun W => gens_is hb true (by rw [hq]; rfl) W)
  have IN := Lib.hid (fun n c (h : isF n c = true) W => l08In_any hb hq h W)
  have hgl := (gn_ok p (clFind_mem hp)).1
  have HAF := Lib.hid (gn_areF (clFind_mem hp))
  unfold belB
  generalize gnL p = xs at GA HAF hgl ⊢
  obtain ⟨res, hres⟩ : ∃ res, allLt xs.length (fun i => inNm q (fget xs i).1 (fget xs i).2) = res := ⟨_, rfl⟩
  have HNO : Hid (∀ i, i < xs.length → inNm q (fget xs i).1 (fget xs i).2 = false → res = false) := Lib.hid fun i hi h => by rw [← hres]; exact bel_no hi h
  have HYE : Hid ((∀ i, i < xs.length → inNm q (fget xs i).1 (fget xs i).2 = true) → res = true) := Lib.hid fun h => by rw [← hres]; exact allLt_iff.2 h
  rw [hres]
  clear hres hp hq
  go_enter Tryz.func9, Tryz.ntmps9
  go_wp2_with (first
    | (go_at_call 14; with_reducible refine (GA.out _).mono ?_; rintro e w2 ⟨va, rfl, hO, hb2⟩; have HO := Lib.hid hO; obtain ⟨ad, cap, rfl, _⟩ := hO.cells; clear hO)
    | (go_at_call 14; with_reducible refine (GB.out _).mono ?_; rintro e w3 ⟨vb, rfl, hb3⟩))
  have HO3 := Lib.hid (HO.out.below hb3)
  have hB3 := bthen hb2 hb3
  clear hb2 hb3 HO
  go_loopw [10] (fun i' wr => ∃ i : Nat, i ≤ xs.length ∧ i' = .int .i64 i ∧ Hid (∀ j, j < i → inNm q (fget xs j).1 (fget xs j).2 = true) ∧ Below w3.heap.size w3 wr) (fun i' _ => xs.length - (intOf i').toNat)
  case atStart => exact ⟨0, Nat.zero_le _, rfl, Lib.hid (fun j hj => absurd hj (Nat.not_lt_zero _)), Below.refl _ _⟩
  case round =>
    obtain ⟨i, hi, rfl, HI, hN⟩ := hrel
    by_cases hlt : i < xs.length
    · obtain ⟨ad', cap', he, hrow⟩ := (HO3.out.below hN).cells
      obtain ⟨g, hg, hgl2, hcell⟩ := hrow.resolve_left (by omega)
      have hae : ad = some ⟨g, 0, none⟩ := by simp at he; rw [he.1]; exact hg
      subst hae
      obtain ⟨c0, c1⟩ := hcell.out i hlt
      have IA := Lib.hid (fun W => IN.out _ _ (HAF.out i hlt) W)
      clear he hg hrow hcell
      cases hin : inNm q (fget xs i).1 (fget xs i).2
      · have HR := Lib.hid (HNO.out i hlt hin)
        rw [hin] at IA
        clear hin
        generalize (fget xs i).1 = fn at c0 IA
        generalize (fget xs i).2 = fb at c1 IA
        go_wp2_with (go_at_call 15; refine (IA.out _).mono ?_; rintro e w5 ⟨rfl, hb5⟩)
        refine bodyPost_ret (v := .tuple #[.bool false, .int .i64 0]) (by simp [results, Tryz.results9, go_sem]) rfl ⟨by rw [HR.out], bthen hB3 (bthen hN hb5)⟩
      · have HI2 : Hid (∀ j, j < i + 1 → inNm q (fget xs j).1 (fget xs j).2 = true) := Lib.hid fun j hj => by
          by_cases e : j = i
          · rw [e]; exact hin
          · exact HI.out j (by omega)
        rw [hin] at IA
        clear hin
        generalize (fget xs i).1 = fn at c0 IA
        generalize (fget xs i).2 = fb at c1 IA
        go_wp2_with (go_at_call 15; refine (IA.out _).mono ?_; rintro e w5 ⟨rfl, hb5⟩)
        go_roundw
        case rel => exact ⟨i + 1, by omega, by go_num, HI2, bthen hN hb5⟩
        case measure => simp [intOf]; omega
    · obtain rfl : i = xs.length := by omega
      have HR := Lib.hid (HYE.out HI.out)
      go_wp2
      refine bodyPost_ret (v := .tuple #[.bool true, .int .i64 0]) (by simp [results, Tryz.results9, go_sem]) rfl ⟨by rw [HR.out], bthen hB3 hN⟩
end Go.Proofs.YthjgkgknlecjlaaGreatDoor

/- CN39:
  IsBelow of the program. -/
namespace Go.Proofs.YthjgkgknlecjlaaGreatDoor
open Go.RowKit Go.Shelf
set_option linter.unusedVariables false
set_option linter.unusedSimpArgs false

set_option maxHeartbeats 2000000 in
theorem implIsBelow_no1 {a b : ByteArray} (ha : clFind a = none) {ad : Addr} (w : World) (hE : ErrN w ad) :
    Calls Tryz.prog 10 #[.string a, .string b] w fun e w' => e = .returned (.tuple #[.bool false, .int .i64 6]) ∧ Below w.heap.size w w' := by
  have RA := Lib.hid (fun W hE => readCloneName_no ha (a := ad) W hE)
  have HE := Lib.hid hE
  clear hE
  go_enter Tryz.func10, Tryz.ntmps10
  go_wp2_with (go_at_call 17; refine (RA.out _ HE.out).mono ?_; rintro e w2 ⟨hb2, rfl⟩)
  exact bodyPost_ret (v := .tuple #[.bool false, .int .i64 6]) (by simp [results, Tryz.results10, go_sem]) rfl ⟨rfl, balloc hb2 _⟩
set_option maxHeartbeats 2000000 in
theorem implIsBelow_no2 {a b : ByteArray} {p : Nat × Nat} (ha : clFind a = some p) (hb : clFind b = none) {ad : Addr} (w : World) (hE : ErrN w ad) :
    Calls Tryz.prog 10 #[.string a, .string b] w fun e w' => e = .returned (.tuple #[.bool false, .int .i64 6]) ∧ Below w.heap.size w w' := by
  have RA := Lib.hid (fun W hE => readCloneName_yes ha (a := ad) W hE)
  have RB := Lib.hid (fun W hE => readCloneName_no hb (a := ad) W hE)
  have HE := Lib.hid hE
  clear hE
  generalize lnB p.1 = lb at RA
  generalize lnG p.1 = lg at RA
  generalize (lnK p.1 : Int) = lk at RA
  generalize (p.2 : Int) = ld at RA
  go_enter Tryz.func10, Tryz.ntmps10
  go_wp2_with (first
    | (go_at_call 17; refine (RB.out _ (HE.out.below (balloc hb2 _))).mono ?_; rintro e w3 ⟨hb3, rfl⟩)
    | (go_at_call 17; refine (RA.out _ HE.out).mono ?_; rintro e w2 ⟨hb2, ta, tn, tc, rfl⟩))
  exact bodyPost_ret (v := .tuple #[.bool false, .int .i64 6]) (by simp [results, Tryz.results10, go_sem]) rfl ⟨rfl, balloc (bthen (balloc hb2 _) hb3) _⟩

set_option maxRecDepth 100000 in
set_option maxHeartbeats 4000000 in
theorem implIsBelow_yes {a b : ByteArray} {p q : Nat × Nat} (ha : clFind a = some p) (hb : clFind b = some q) {ad : Addr} (w : World) (hE : ErrN w ad) (hT : TabN w) :
    Calls Tryz.prog 10 #[.string a, .string b] w fun e w' => e = .returned (.tuple #[.bool (belB p q), .int .i64 0]) ∧ Below w.heap.size w w' := by
  have RA := Lib.hid (fun W hE => readCloneName_yes ha (a := ad) W hE)
  have RB := Lib.hid (fun W hE => readCloneName_yes hb (a := ad) W hE)
  have GEN := Lib.hid (fun ta tn tc W hT => generators_any (clFind_mem ha) ta tn tc W hT)
  have HAS := Lib.hid (fun ta tn tc n c (h : isF n c = true) W hT => has_any (clFind_mem hb) ta tn tc h W hT)
  have HE := Lib.hid hE
  have HT := Lib.hid hT
  have hgl := (gn_ok p (clFind_mem ha)).1
  have HAF := Lib.hid (gn_areF (clFind_mem ha))
  unfold belB
  generalize gnL p = xs at GEN HAF hgl ⊢
  obtain ⟨res, hres⟩ : ∃ res, allLt xs.length (fun i => inNm q (fget xs i).1 (fget xs i).2) = res := ⟨_, rfl⟩
  have HNO : Hid (∀ i, i < xs.length → inNm q (fget xs i).1 (fget xs i).2 = false → res = false) := Lib.hid fun i hi h => by rw [← hres]; exact bel_no hi h
  have HYE : Hid ((∀ i, i < xs.length → inNm q (fget xs i).1 (fget xs i).2 = true) → res = true) := Lib.hid fun h => by rw [← hres]; exact allLt_iff.2 h
  rw [hres]
  clear hres ha hb hE hT
  generalize hin : inNm q = inq at HAS HNO HYE
  clear hin
  generalize lnB p.1 = lb at RA GEN
  generalize lnG p.1 = lg at RA GEN
  generalize (lnK p.1 : Int) = lk at RA GEN
  generalize (p.2 : Int) = ld at RA GEN
  generalize lnB q.1 = kb at RB HAS
  generalize lnG q.1 = kg at RB HAS
  generalize (lnK q.1 : Int) = kk at RB HAS
  generalize (q.2 : Int) = kd at RB HAS
  go_enter Tryz.func10, Tryz.ntmps10
  go_wp2_with (first
    | (go_at_call 17; refine (RB.out _ (HE.out.below hb2')).mono ?_; rintro e w3 ⟨hb3, ub, un, uc, rfl⟩; have B1 := B0.below hb3; obtain ⟨c0, c1, c2, c3, c4, _, _, _, _, _⟩ := B1; have hz := cell_lt c0; dsimp only at hz; have hne : ¬ w3.heap.size = w2.heap.size := (by omega); have hne' : ¬ w2.heap.size = w3.heap.size := (by omega); have hb3' := balloc (bthen hb2' hb3) (.cells #[.string kb, .int .i64 kk, .slice ub un uc, .string kg, .int .i64 kd] 43); have D0 := Box5.new w3 (.string kb) (.int .i64 kk) (.slice ub un uc) (.string kg) (.int .i64 kd) 43)
    | (go_at_call 17; refine (RA.out _ HE.out).mono ?_; rintro e w2 ⟨hb2, ta, tn, tc, rfl⟩; have B0 := Box5.new w2 (.string lb) (.int .i64 lk) (.slice ta tn tc) (.string lg) (.int .i64 ld) 43; have hb2' := balloc hb2 (.cells #[.string lb, .int .i64 lk, .slice ta tn tc, .string lg, .int .i64 ld] 43))
    | (go_at_call 19; refine (GEN.out _ _ _ _ (HT.out.below hb3')).mono ?_; rintro e w4 ⟨sv, rfl, hO, hb4⟩; have HO := Lib.hid (show OwnsF w4 w.heap.size sv xs from row_mono hO (hb3'.size)); have D1 := Lib.hid (D0.below hb4); obtain ⟨va, vc, rfl, _⟩ := OwnsF.cells HO.out; clear hO))
  have hB4 := bthen hb3' hb4
  clear hb2' hb3' hb3 hb4 hb2 c0 c1 c2 c3 c4 B0 D0
  generalize w3.heap.size = d at D1 ⊢
  go_loopw [30] (fun i' wr => ∃ i : Nat, i ≤ xs.length ∧ i' = .int .i64 i ∧ Hid (∀ j, j < i → inq (fget xs j).1 (fget xs j).2 = true) ∧ Below w4.heap.size w4 wr) (fun i' _ => xs.length - (intOf i').toNat)
  case atStart => exact ⟨0, Nat.zero_le _, rfl, Lib.hid (fun j hj => absurd hj (Nat.not_lt_zero _)), Below.refl _ _⟩
  case round =>
    obtain ⟨i, hi, rfl, HI, hN⟩ := hrel
    by_cases hlt : i < xs.length
    · obtain ⟨ad', cap', he, hrow⟩ := (HO.out.below hN).cells
      obtain ⟨g, hg, hgl2, hcell⟩ := hrow.resolve_left (by omega)
      have hae : va = some ⟨g, 0, none⟩ := by simp at he; rw [he.1]; exact hg
      subst hae
      obtain ⟨x0, x1⟩ := hcell.out i hlt
      obtain ⟨c0, c1, c2, c3, c4, _, _, _, _, _⟩ := D1.out.below hN
      have hz := cell_lt c0
      dsimp only at hz
      have hne : ¬ wr.heap.size = d := by omega
      have hne' : ¬ d = wr.heap.size := by omega
      have IA := Lib.hid (fun ta tn tc W => HAS.out ta tn tc _ _ (HAF.out i hlt) W)
      clear he hg hrow hcell
      have hBN := bthen hB4 hN
      cases hin : inq (fget xs i).1 (fget xs i).2
      · have HR := Lib.hid (HNO.out i hlt hin)
        rw [hin] at IA
        clear hin
        generalize (fget xs i).1 = fn at x0 IA
        generalize (fget xs i).2 = fb at x1 IA
        go_wp2_with (go_at_call 18; refine (IA.out _ _ _ _ (HT.out.below (balloc hBN _))).mono ?_; rintro e w5 ⟨rfl, hb5⟩)
        refine bodyPost_ret (v := .tuple #[.bool false, .int .i64 0]) (by simp [results, Tryz.results10, go_sem]) rfl ⟨by rw [HR.out], bthen (balloc hBN _) hb5⟩
      · have HI2 : Hid (∀ j, j < i + 1 → inq (fget xs j).1 (fget xs j).2 = true) := Lib.hid fun j hj => by
          by_cases e : j = i
          · rw [e]; exact hin
          · exact HI.out j (by omega)
        rw [hin] at IA
        clear hin
        generalize (fget xs i).1 = fn at x0 IA
        generalize (fget xs i).2 = fb at x1 IA
        go_wp2_with (go_at_call 18; refine (IA.out _ _ _ _ (HT.out.below (balloc hBN _))).mono ?_; rintro e w5 ⟨rfl, hb5⟩)
        go_roundw
        case rel => exact ⟨i + 1, by omega, by go_num, HI2, bthen (balloc hN _) hb5⟩
        case measure => simp [intOf]; omega
    · obtain rfl : i = xs.length := by omega
      have HR := Lib.hid (HYE.out HI.out)
      go_wp2
      refine bodyPost_ret (v := .tuple #[.bool true, .int .i64 0]) (by simp [results, Tryz.results10, go_sem]) rfl ⟨by rw [HR.out], bthen hB4 hN⟩
theorem bothIsBelow (a b : ByteArray) (ha : a.size ≤ 1048576) (hb : b.size ≤ 1048576) : ∃ (r : Bool) (c : Int),
    (∀ w, Calls Tryz.prog 9 #[.string a, .string b] w fun e w' => e = .returned (.tuple #[.bool r, .int .i64 c]) ∧ Below w.heap.size w w') ∧
    (∀ w ad, ErrN w ad → TabN w → Calls Tryz.prog 10 #[.string a, .string b] w fun e w' => e = .returned (.tuple #[.bool r, .int .i64 c]) ∧ Below w.heap.size w w') := by
  cases hp : clFind a with
  | none => exact ⟨_, _, fun w => specIsBelow_no ha hb (.inl hp) w, fun w ad hE hT => implIsBelow_no1 hp w hE⟩
  | some p =>
    cases hq : clFind b with
    | none => exact ⟨_, _, fun w => specIsBelow_no ha hb (.inr hq) w, fun w ad hE hT => implIsBelow_no2 hp hq w hE⟩
    | some q => exact ⟨_, _, fun w => specIsBelow_yes ha hb hp hq w, fun w ad hE hT => implIsBelow_yes hp hq w hE hT⟩
end Go.Proofs.YthjgkgknlecjlaaGreatDoor

/- FIsBelow:
  The walk of the law on IsBelow: both packages answer alike. -/
namespace Go.Proofs.YthjgkgknlecjlaaGreatDoor
open Go.RowKit
set_option linter.unusedVariables false
set_option linter.unusedSimpArgs false
set_option maxRecDepth 100000 in
set_option maxHeartbeats 4000000 in
theorem fnExactIsBelow_walk (s0 : ByteArray) (s1 : ByteArray) (w : World) (_ : s0.size ≤ 140737488351232) (_ : s1.size ≤ 140737488351232) (ad : Addr) (hE : ErrN w ad) (hT : TabN w) :
    Calls Tryz.prog 4 #[.string s0, .string s1] w fun e w' => e = .returned (.bool true) ∧ Below w.heap.size w w' := by
  by_cases hs0 : s0.size ≤ 1048576
  · have hd0 : decide (1048576 < (s0.size : Int)) = false := by simp; omega
    by_cases hs1 : s1.size ≤ 1048576
    · obtain ⟨rx, rc, c1, c2⟩ := bothIsBelow s0 s1 hs0 hs1
      have C1 := Lib.hid c1
      have C2 := Lib.hid c2
      have HE := Lib.hid hE
      have HT := Lib.hid hT
      clear c1 c2 hE hT
      have hd1 : decide (1048576 < (s1.size : Int)) = false := by simp; omega
      clear hs0 hs1
      go_enter Tryz.func4, Tryz.ntmps4
      go_wp2_with fail
      refine (C1.out _).mono ?_
      rintro e w2 ⟨rfl, hb2⟩
      go_wp2_with fail
      refine (C2.out _ _ (HE.out.below hb2) (HT.out.below hb2)).mono ?_
      rintro e w4 ⟨rfl, hb4⟩
      go_wp2
      go_ret
      exact ⟨rfl, bthen hb2 hb4⟩
    · have hd1 : decide (1048576 < (s1.size : Int)) = true := by simp; omega
      go_enter Tryz.func4, Tryz.ntmps4
      go_wp2_with fail
      go_ret
      exact ⟨rfl, Below.refl _ _⟩
  · have hd0 : decide (1048576 < (s0.size : Int)) = true := by simp; omega
    go_enter Tryz.func4, Tryz.ntmps4
    go_wp2_with fail
    go_ret
    exact ⟨rfl, Below.refl _ _⟩
end Go.Proofs.YthjgkgknlecjlaaGreatDoor
