/-
  The texts CN38, CN40, FDualName in one.
-/
import Derived.Test.YthjgkgknlecjlaaGreatDoorMPIsInNamed9

/- CN38:
  IsBelow in both packages. -/
namespace Go.Proofs.YthjgkgknlecjlaaGreatDoor
open Go.RowKit Go.Shelf
set_option linter.unusedVariables false
set_option linter.unusedSimpArgs false

/-- The functions of one list, each in the named clone. -/
def belB (p q : Nat × Nat) : Bool := allLt (gnL p).length fun i => inNm q (fget (gnL p) i).1 (fget (gnL p) i).2
theorem bel_no {xs : List (Int × Int)} {q : Nat × Nat} {i : Nat} (hi : i < xs.length) (h : inNm q (fget xs i).1 (fget xs i).2 = false) : allLt xs.length (fun i => inNm q (fget xs i).1 (fget xs i).2) = false := by
  cases e : allLt xs.length (fun i => inNm q (fget xs i).1 (fget xs i).2)
  · rfl
  · rw [allLt_iff] at e
    rw [e i hi] at h
    cases h

theorem gens_is {s : ByteArray} (hb : s.size ≤ 1048576) (ok : Bool) (hok : (clFind s).isSome = ok) (w : World) : Calls Tryz.prog 14 #[.string s] w fun e w' => ∃ v, e = .returned (.tuple #[v, .bool ok]) ∧ Below w.heap.size w w' := by
  cases hs : clFind s with
  | none => rw [hs] at hok; subst hok; exact (gens_none hb hs w).mono (by rintro e w' ⟨rfl, h⟩; exact ⟨_, rfl, h⟩)
  | some p => rw [hs] at hok; subst hok; exact (gens_some hb hs w).mono (by rintro e w' ⟨v, rfl, _, h⟩; exact ⟨_, rfl, h⟩)

set_option maxRecDepth 100000 in
set_option maxHeartbeats 4000000 in
theorem specIsBelow_no {a b : ByteArray} (ha : a.size ≤ 1048576) (hb : b.size ≤ 1048576) (h : clFind a = none ∨ clFind b = none) (w : World) :
    Calls Tryz.prog 9 #[.string a, .string b] w fun e w' => e = .returned (.tuple #[.bool false, .int .i64 6]) ∧ Below w.heap.size w w' := by
  obtain ⟨oa, hoa⟩ : ∃ oa, (clFind a).isSome = oa := ⟨_, rfl⟩
  obtain ⟨ob, hob⟩ : ∃ ob, (clFind b).isSome = ob := ⟨_, rfl⟩
  have hor : oa = false ∨ ob = false := by
    rcases h with h | h
    · left; rw [← hoa, h]; rfl
    · right; rw [← hob, h]; rfl
  have GA := Lib.hid (fun W => gens_is ha oa hoa W)
  have GB := Lib.hid (fun W => gens_is hb ob hob W)
  clear h hoa hob
  rcases hor with rfl | rfl
  · go_enter Tryz.func9, Tryz.ntmps9
    go_wp2_with (first
      | (go_at_call 14; with_reducible refine (GA.out _).mono ?_; rintro e w2 ⟨va, rfl, hb2⟩)
      | (go_at_call 14; with_reducible refine (GB.out _).mono ?_; rintro e w3 ⟨vb, rfl, hb3⟩))
    exact bodyPost_ret (v := .tuple #[.bool false, .int .i64 6]) (by simp [results, Tryz.results9, go_sem]) rfl ⟨rfl, bthen hb2 hb3⟩
  · cases oa
    all_goals
      go_enter Tryz.func9, Tryz.ntmps9
      go_wp2_with (first
        | (go_at_call 14; with_reducible refine (GA.out _).mono ?_; rintro e w2 ⟨va, rfl, hb2⟩)
        | (go_at_call 14; with_reducible refine (GB.out _).mono ?_; rintro e w3 ⟨vb, rfl, hb3⟩))
      exact bodyPost_ret (v := .tuple #[.bool false, .int .i64 6]) (by simp [results, Tryz.results9, go_sem]) rfl ⟨rfl, bthen hb2 hb3⟩

set_option maxRecDepth 100000 in
set_option maxHeartbeats 4000000 in
theorem specIsBelow_yes {a b : ByteArray} (ha : a.size ≤ 1048576) (hb : b.size ≤ 1048576) {p q : Nat × Nat} (hp : clFind a = some p) (hq : clFind b = some q) (w : World) :
    Calls Tryz.prog 9 #[.string a, .string b] w fun e w' => e = .returned (.tuple #[.bool (belB p q), .int .i64 0]) ∧ Below w.heap.size w w' := by
  have GA := Lib.hid (fun W => gens_some ha hp W)
  have GB := Lib.hid (fun W => gens_is hb true (by rw [hq]; rfl) W)
  have IN := Lib.hid (fun n c (h : isF n c = true) W => l08In_any hb hq h W)
  have hgl := (gn_ok p (clFind_mem hp)).1
  have HAF := Lib.hid (gn_areF (clFind_mem hp))
  unfold belB
  generalize gnL p = xs at GA HAF hgl ⊢
  obtain ⟨res, hres⟩ : ∃ res, allLt xs.length (fun i => inNm q (fget xs i).1 (fget xs i).2) = res := ⟨_, rfl⟩
  have HNO : Hid (∀ i, i < xs.length → inNm q (fget xs i).1 (fget xs i).2 = false → res = false) := Lib.hid fun i hi h => by rw [← hres]; exact bel_no hi h
  have HYE : Hid ((∀ i, i < xs.length → inNm q (fget xs i).1 (fget xs i).2 = true) → res = true) := Lib.hid fun h => by rw [← hres]; exact allLt_iff.2 h
  rw [hres]
  clear hres hp hq
  go_enter Tryz.func9, Tryz.ntmps9
  go_wp2_with (first
    | (go_at_call 14; with_reducible refine (GA.out _).mono ?_; rintro e w2 ⟨va, rfl, hO, hb2⟩; have HO := Lib.hid hO; obtain ⟨ad, cap, rfl, _⟩ := hO.cells; clear hO)
    | (go_at_call 14; with_reducible refine (GB.out _).mono ?_; rintro e w3 ⟨vb, rfl, hb3⟩))
  have HO3 := Lib.hid (HO.out.below hb3)
  have hB3 := bthen hb2 hb3
  clear hb2 hb3 HO
  go_loopw [10] (fun i' wr => ∃ i : Nat, i ≤ xs.length ∧ i' = .int .i64 i ∧ Hid (∀ j, j < i → inNm q (fget xs j).1 (fget xs j).2 = true) ∧ Below w3.heap.size w3 wr) (fun i' _ => xs.length - (intOf i').toNat)
  case atStart => exact ⟨0, Nat.zero_le _, rfl, Lib.hid (fun j hj => absurd hj (Nat.not_lt_zero _)), Below.refl _ _⟩
  case round =>
    obtain ⟨i, hi, rfl, HI, hN⟩ := hrel
    by_cases hlt : i < xs.length
    · obtain ⟨ad', cap', he, hrow⟩ := (HO3.out.below hN).cells
      obtain ⟨g, hg, hgl2, hcell⟩ := hrow.resolve_left (by omega)
      have hae : ad = some ⟨g, 0, none⟩ := by simp at he; rw [he.1]; exact hg
      subst hae
      obtain ⟨c0, c1⟩ := hcell.out i hlt
      have IA := Lib.hid (fun W => IN.out _ _ (HAF.out i hlt) W)
      clear he hg hrow hcell
      cases hin : inNm q (fget xs i).1 (fget xs i).2
      · have HR := Lib.hid (HNO.out i hlt hin)
        rw [hin] at IA
        clear hin
        generalize (fget xs i).1 = fn at c0 IA
        generalize (fget xs i).2 = fb at c1 IA
        go_wp2_with (go_at_call 15; refine (IA.out _).mono ?_; rintro e w5 ⟨rfl, hb5⟩)
        refine bodyPost_ret (v := .tuple #[.bool false, .int .i64 0]) (by simp [results, Tryz.results9, go_sem]) rfl ⟨by rw [HR.out], bthen hB3 (bthen hN hb5)⟩
      · have HI2 : Hid (∀ j, j < i + 1 → inNm q (fget xs j).1 (fget xs j).2 = true) := Lib.hid fun j hj => by
          by_cases e : j = i
          · rw [e]; exact hin
          · exact HI.out j (by omega)
        rw [hin] at IA
        clear hin
        generalize (fget xs i).1 = fn at c0 IA
        generalize (fget xs i).2 = fb at c1 IA
        go_wp2_with (go_at_call 15; refine (IA.out _).mono ?_; rintro e w5 ⟨rfl, hb5⟩)
        go_roundw
        case rel => exact ⟨i + 1, by omega, by go_num, HI2, bthen hN hb5⟩
        case measure => simp [intOf]; omega
    · obtain rfl : i = xs.length := by omega
      have HR := Lib.hid (HYE.out HI.out)
      go_wp2
      refine bodyPost_ret (v := .tuple #[.bool true, .int .i64 0]) (by simp [results, Tryz.results9, go_sem]) rfl ⟨by rw [HR.out], bthen hB3 hN⟩
end Go.Proofs.YthjgkgknlecjlaaGreatDoor

/- CN40:
  DualName in both packages. -/
namespace Go.Proofs.YthjgkgknlecjlaaGreatDoor
open Go.RowKit Go.Shelf
set_option linter.unusedVariables false
set_option linter.unusedSimpArgs false

/-- The dual of a function of at most four variables, as a number. -/
def dlB (p : Int × Int) : Int × Int := (p.1, ((sumN (fun r => 1 - bitN p.2.toNat (2 ^ p.1.toNat - 1 - r)) (2 ^ p.1.toNat) : Nat) : Int))
def dlL (xs : List (Int × Int)) : List (Int × Int) := xs.map dlB
theorem dlL_take {xs : List (Int × Int)} {i : Nat} (hi : i < xs.length) : dlL (xs.take (i + 1)) = dlL (xs.take i) ++ [dlB (fget xs i)] := by
  unfold dlL fget
  rw [List.take_succ_eq_append_getElem hi, List.map_append, List.getElem?_eq_getElem hi]
  rfl
theorem dlL_len (xs : List (Int × Int)) : (dlL xs).length = xs.length := by unfold dlL; rw [List.length_map]
theorem dl_ok : ∀ p ∈ clTo 38, (dlL (gnL p)).all (fun q => isF q.1 q.2) = true := by decide +kernel
theorem implDual_p {p : Int × Int} (h : isF p.1 p.2 = true) (w : World) : Calls Tryz.prog 22 #[.agg #[.int .i64 p.1, .int .i64 p.2]] w fun e w' => e = .returned (.tuple #[.agg #[.int .i64 (dlB p).1, .int .i64 (dlB p).2], .int .i64 0]) ∧ Below w.heap.size w w' := by
  obtain ⟨ok, hc⟩ := fok_p h
  have := implDualOf_yes ok w
  rw [hc] at this
  exact this
theorem specDual_p {p : Int × Int} (h : isF p.1 p.2 = true) (w : World) : Calls Tryz.prog 20 #[.agg #[.int .i64 p.1, .int .i64 p.2]] w fun e w' => e = .returned (.agg #[.int .i64 (dlB p).1, .int .i64 (dlB p).2]) ∧ Below w.heap.size w w' := by
  obtain ⟨ok, hc⟩ := fok_p h
  have := l01Dual_any ok w
  rw [hc] at this
  exact this

set_option maxHeartbeats 2000000 in
theorem specDualName_no {a : ByteArray} (ha : a.size ≤ 1048576) (hp : clFind a = none) (w : World) :
    Calls Tryz.prog 11 #[.string a] w fun e w' => e = .returned (.tuple #[.string ⟨#[]⟩, .int .i64 6]) ∧ Below w.heap.size w w' := by
  have GA := Lib.hid (fun W => gens_none ha hp W)
  go_enter Tryz.func11, Tryz.ntmps11
  go_wp2_with (go_at_call 14; refine (GA.out _).mono ?_; rintro e w2 ⟨rfl, hb2⟩)
  exact bodyPost_ret (v := .tuple #[.string ⟨#[]⟩, .int .i64 6]) (by simp [results, Tryz.results11, go_sem]) rfl ⟨rfl, hb2⟩
set_option maxHeartbeats 2000000 in
theorem implDualName_no {a : ByteArray} (hp : clFind a = none) {ad : Addr} (w : World) (hE : ErrN w ad) :
    Calls Tryz.prog 12 #[.string a] w fun e w' => e = .returned (.tuple #[.string ⟨#[]⟩, .int .i64 6]) ∧ Below w.heap.size w w' := by
  have RA := Lib.hid (fun W hE => readCloneName_no hp (a := ad) W hE)
  have HE := Lib.hid hE
  clear hE
  go_enter Tryz.func12, Tryz.ntmps12
  go_wp2_with (go_at_call 17; refine (RA.out _ HE.out).mono ?_; rintro e w2 ⟨hb2, rfl⟩)
  exact bodyPost_ret (v := .tuple #[.string ⟨#[]⟩, .int .i64 6]) (by simp [results, Tryz.results12, go_sem]) rfl ⟨rfl, balloc hb2 _⟩

set_option maxRecDepth 100000 in
set_option maxHeartbeats 4000000 in
theorem specDualName_yes {a : ByteArray} (ha : a.size ≤ 1048576) {p : Nat × Nat} (hp : clFind a = some p) (w : World) :
    Calls Tryz.prog 11 #[.string a] w fun e w' => e = .returned (.tuple #[.string (nmL (dlL (gnL p))), .int .i64 0]) ∧ Below w.heap.size w w' := by
  obtain ⟨i0, hi, hz0, hz1, hz2⟩ := info_parts infoF
  have GA := Lib.hid (fun W => gens_some ha hp W)
  have hgl := (gn_ok p (clFind_mem hp)).1
  have HAF := Lib.hid (gn_areF (clFind_mem hp))
  have L8 := Lib.hid (fun base v W (h : OwnsF W base v (dlL (gnL p))) => l08Name_any (by rw [dlL_len]; omega) (areF_all (dl_ok p (clFind_mem hp))) W h)
  generalize gnL p = xs at GA HAF hgl L8 ⊢
  have HDT : Hid (∀ i, i < xs.length → dlL (xs.take (i + 1)) = dlL (xs.take i) ++ [((dlB (fget xs i)).1, (dlB (fget xs i)).2)]) := Lib.hid fun i hi => dlL_take hi
  have HDL : Hid (∀ i, i ≤ xs.length → (dlL (xs.take i)).length = i) := Lib.hid fun i hi => by rw [dlL_len, List.length_take]; omega
  have HDA : Hid (dlL (xs.take xs.length) = dlL xs) := Lib.hid (by rw [List.take_of_length_le (Nat.le_refl _)])
  have HD0 : Hid (dlL (xs.take 0) = []) := Lib.hid rfl
  have HDU := Lib.hid (fun i (hi : i < xs.length) W => specDual_p (HAF.out i hi) W)
  generalize nmL (dlL xs) = nm at L8 ⊢
  clear hp
  go_enter Tryz.func11, Tryz.ntmps11
  go_wp2_with (go_at_call 14; refine (GA.out _).mono ?_; rintro e w2 ⟨va, rfl, hO, hb2⟩; have HO := Lib.hid hO; obtain ⟨ad, cap, rfl, _⟩ := hO.cells; clear hO)
  go_loopw [6, 7] (fun sv i' wr => ∃ i : Nat, i ≤ xs.length ∧ i' = .int .i64 i ∧ OwnsF wr w2.heap.size sv (dlL (xs.take i)) ∧ Below w2.heap.size w2 wr) (fun _ i' _ => xs.length - (intOf i').toNat)
  case atStart => exact ⟨0, Nat.zero_le _, rfl, by rw [HD0.out]; exact World.ownsRow_lit w2 #[] 0 (Nat.le_refl _) (by decide) rfl, bnew _ _⟩
  case round =>
    obtain ⟨i, him, rfl, hO, hN⟩ := hrel
    by_cases hlt : i < xs.length
    · obtain ⟨ad', cap', he, hrow⟩ := (HO.out.below hN).cells
      obtain ⟨g, hg, hgl2, hcell⟩ := hrow.resolve_left (by omega)
      have hae : ad = some ⟨g, 0, none⟩ := by simp at he; rw [he.1]; exact hg
      subst hae
      obtain ⟨x0, x1⟩ := hcell.out i hlt
      have DU := Lib.hid (HDU.out i hlt)
      have HT := Lib.hid (HDT.out i hlt)
      have hl := HDL.out i him
      clear he hg hrow hcell
      generalize (dlB (fget xs i)).1 = d1 at DU HT
      generalize (dlB (fget xs i)).2 = d2 at DU HT
      generalize (fget xs i).1 = fn at x0 DU
      generalize (fget xs i).2 = fb at x1 DU
      have hO2 : wr.ownsRow w2.heap.size 26 2 u6 i (fcells (dlL (xs.take i))) := by
        have := hO
        unfold OwnsF at this
        rwa [hl] at this
      have HO2 := Lib.hid hO2
      have hsz := hN.size
      clear hO hO2
      go_wp2_with (first
        | (go_at_call 20; refine (DU.out _).mono ?_; rintro e w4 ⟨rfl, hb4⟩; have hO4 : World.ownsRow _ _ _ _ _ _ _ := owns_below HO2.out hb4; have hN4 := bthen hN hb4; have hs4 := hN4.size)
        | (at_builtin; refine wpList_append_own _ rfl _ _ 35 rfl w2.heap.size 26 i0 (.agg #[.int .i64 0, .int .i64 0]) 2 16 Tryz.underlying35 hi hz0 hz1 hz2 rfl (by decide) _ _ _ rfl (hO4.alloc _) ⟨w4.heap.size, 0, none⟩ 1 1 [.int .i64 d1, .int .i64 d2] rfl rfl (cell_two_new _ _ _ _) (one_cell_two _ _) (by unfold maxLen; omega) (by omega) (by simp; omega) ?_))
      intro v' w5 hO5 hg5 _
      have hN5 := (balloc hN4 (.cells #[.int .i64 d1, .int .i64 d2] 26)).grown hg5 (by simp; omega) (fun j e => (hO4.lt j e).1)
      have HO5 : Hid (OwnsF w5 w2.heap.size v' (dlL (xs.take (i + 1)))) := Lib.hid (by
        rw [HT.out]
        refine OwnsF.snoc ?_
        rw [hl]; exact hO5)
      clear hO4 hO5 hg5 hN4
      go_wp2
      go_roundw
      case rel => exact ⟨i + 1, by omega, by go_num, HO5.out, hN5⟩
      case measure => simp [intOf]; omega
    · obtain rfl : i = xs.length := by omega
      rw [HDA.out] at hO
      have LN := Lib.hid (L8.out _ _ _ hO)
      obtain ⟨_, _, rfl, _⟩ := hO.cells
      clear hO
      go_wp2_with (go_at_call 21; refine (LN.out).mono ?_; rintro e w7 ⟨rfl, hb7⟩)
      exact bodyPost_ret (v := .tuple #[.string nm, .int .i64 0]) (by simp [results, Tryz.results11, go_sem]) rfl ⟨rfl, bthen hb2 (bthen hN hb7)⟩

set_option maxRecDepth 100000 in
set_option maxHeartbeats 4000000 in
theorem implDualName_yes {a : ByteArray} {p : Nat × Nat} (hp : clFind a = some p) {ae : Addr} (w : World) (hE : ErrN w ae) (hT : TabN w) :
    Calls Tryz.prog 12 #[.string a] w fun e w' => e = .returned (.tuple #[.string (nmL (dlL (gnL p))), .int .i64 0]) ∧ Below w.heap.size w w' := by
  obtain ⟨i0, hi, hz0, hz1, hz2⟩ := info_parts infoF
  have RA := Lib.hid (fun W hE => readCloneName_yes hp (a := ae) W hE)
  have GEN := Lib.hid (fun ta tn tc W hT => generators_any (clFind_mem hp) ta tn tc W hT)
  have HE := Lib.hid hE
  have HT0 := Lib.hid hT
  have hgl := (gn_ok p (clFind_mem hp)).1
  have HAF := Lib.hid (gn_areF (clFind_mem hp))
  have L8 := Lib.hid (fun base v W (h : OwnsF W base v (dlL (gnL p))) => cloneNameOf_any (by rw [dlL_len]; omega) (areF_all (dl_ok p (clFind_mem hp))) W h)
  generalize gnL p = xs at GEN HAF hgl L8 ⊢
  have HDT : Hid (∀ i, i < xs.length → dlL (xs.take (i + 1)) = dlL (xs.take i) ++ [((dlB (fget xs i)).1, (dlB (fget xs i)).2)]) := Lib.hid fun i hi => dlL_take hi
  have HDL : Hid (∀ i, i ≤ xs.length → (dlL (xs.take i)).length = i) := Lib.hid fun i hi => by rw [dlL_len, List.length_take]; omega
  have HDA : Hid (dlL (xs.take xs.length) = dlL xs) := Lib.hid (by rw [List.take_of_length_le (Nat.le_refl _)])
  have HD0 : Hid (dlL (xs.take 0) = []) := Lib.hid rfl
  have HDU := Lib.hid (fun i (hi : i < xs.length) W => implDual_p (HAF.out i hi) W)
  generalize nmL (dlL xs) = nm at L8 ⊢
  clear hp hE hT
  generalize lnB p.1 = lb at RA GEN
  generalize lnG p.1 = lg at RA GEN
  generalize (lnK p.1 : Int) = lk at RA GEN
  generalize (p.2 : Int) = ld at RA GEN
  go_enter Tryz.func12, Tryz.ntmps12
  go_wp2_with (first
    | (go_at_call 17; refine (RA.out _ HE.out).mono ?_; rintro e w1 ⟨hb1, ta, tn, tc, rfl⟩; have hb1' := balloc hb1 (.cells #[.string lb, .int .i64 lk, .slice ta tn tc, .string lg, .int .i64 ld] 43))
    | (go_at_call 19; refine (GEN.out _ _ _ _ (HT0.out.below hb1')).mono ?_; rintro e w2 ⟨va, rfl, hO, hb2⟩; have HO := Lib.hid (show OwnsF w2 w.heap.size va xs from row_mono hO (hb1'.size)); obtain ⟨ad, cap, rfl, _⟩ := OwnsF.cells HO.out; clear hO))
  have hB2 := bthen hb1' hb2
  clear hb1 hb1' hb2
  go_loopw [6, 22] (fun sv i' wr => ∃ i : Nat, i ≤ xs.length ∧ i' = .int .i64 i ∧ OwnsF wr w2.heap.size sv (dlL (xs.take i)) ∧ Below w2.heap.size w2 wr) (fun _ i' _ => xs.length - (intOf i').toNat)
  case atStart => exact ⟨0, Nat.zero_le _, rfl, by rw [HD0.out]; exact OwnsF.nil _ _, Below.refl _ _⟩
  case round =>
    obtain ⟨i, him, rfl, hO, hN⟩ := hrel
    by_cases hlt : i < xs.length
    · obtain ⟨ad', cap', he, hrow⟩ := (HO.out.below hN).cells
      obtain ⟨g, hg, hgl2, hcell⟩ := hrow.resolve_left (by omega)
      have hae : ad = some ⟨g, 0, none⟩ := by simp at he; rw [he.1]; exact hg
      subst hae
      obtain ⟨x0, x1⟩ := hcell.out i hlt
      have DU := Lib.hid (HDU.out i hlt)
      have HT := Lib.hid (HDT.out i hlt)
      have hl := HDL.out i him
      clear he hg hrow hcell
      generalize (dlB (fget xs i)).1 = d1 at DU HT
      generalize (dlB (fget xs i)).2 = d2 at DU HT
      generalize (fget xs i).1 = fn at x0 DU
      generalize (fget xs i).2 = fb at x1 DU
      have hO2 : wr.ownsRow w2.heap.size 26 2 u6 i (fcells (dlL (xs.take i))) := by
        have := hO
        unfold OwnsF at this
        rwa [hl] at this
      have hN' := balloc hN (.cells #[.int .i64 fn, .int .i64 fb] 26)
      have HO2 := Lib.hid (hO2.alloc (.cells #[.int .i64 fn, .int .i64 fb] 26))
      have hsz := hN'.size
      clear hO hO2
      go_wp2_with (first
        | (go_at_call 22; refine (DU.out _).mono ?_; rintro e w4 ⟨rfl, hb4⟩; have hO4 : World.ownsRow _ _ _ _ _ _ _ := owns_below HO2.out hb4; have hN4 := bthen hN' hb4; have hs4 := hN4.size)
        | (at_builtin; refine wpList_append_own _ rfl _ _ 35 rfl w2.heap.size 26 i0 (.agg #[.int .i64 0, .int .i64 0]) 2 16 Tryz.underlying35 hi hz0 hz1 hz2 rfl (by decide) _ _ _ rfl ((hO4.alloc _).alloc _) ⟨w4.heap.size + 1, 0, none⟩ 1 1 [.int .i64 d1, .int .i64 d2] rfl rfl (cell_two_new' _ (by simp) _ _ _) (one_cell_two _ _) (by unfold maxLen; omega) (by omega) (by simp; omega) ?_))
      intro v' w5 hO5 hg5 _
      have hN5 := (balloc (balloc hN4 (.cells #[.int .i64 d1, .int .i64 d2] 26)) (.cells #[.int .i64 d1, .int .i64 d2] 26)).grown hg5 (by simp; omega) (fun j e => (hO4.lt j e).1)
      have HO5 : Hid (OwnsF w5 w2.heap.size v' (dlL (xs.take (i + 1)))) := Lib.hid (by
        rw [HT.out]
        refine OwnsF.snoc ?_
        rw [hl]; exact hO5)
      clear hO4 hO5 hg5 hN4
      go_wp2
      go_roundw
      case rel => exact ⟨i + 1, by omega, by go_num, HO5.out, hN5⟩
      case measure => simp [intOf]; omega
    · obtain rfl : i = xs.length := by omega
      rw [HDA.out] at hO
      have LN := Lib.hid (L8.out _ _ _ hO)
      obtain ⟨_, _, rfl, _⟩ := hO.cells
      clear hO
      go_wp2_with (go_at_call 23; refine (LN.out).mono ?_; rintro e w7 ⟨rfl, hb7⟩)
      exact bodyPost_ret (v := .tuple #[.string nm, .int .i64 0]) (by simp [results, Tryz.results12, go_sem]) rfl ⟨rfl, bthen hB2 (bthen hN hb7)⟩

theorem bothDualName (a : ByteArray) (ha : a.size ≤ 1048576) : ∃ (r : ByteArray) (c : Int),
    (∀ w, Calls Tryz.prog 11 #[.string a] w fun e w' => e = .returned (.tuple #[.string r, .int .i64 c]) ∧ Below w.heap.size w w') ∧
    (∀ w ad, ErrN w ad → TabN w → Calls Tryz.prog 12 #[.string a] w fun e w' => e = .returned (.tuple #[.string r, .int .i64 c]) ∧ Below w.heap.size w w') := by
  cases hp : clFind a with
  | none => exact ⟨_, _, fun w => specDualName_no ha hp w, fun w ad hE hT => implDualName_no hp w hE⟩
  | some p => exact ⟨_, _, fun w => specDualName_yes ha hp w, fun w ad hE hT => implDualName_yes hp w hE hT⟩
end Go.Proofs.YthjgkgknlecjlaaGreatDoor

/- FDualName:
  The walk of the law on DualName: both packages answer alike. -/
namespace Go.Proofs.YthjgkgknlecjlaaGreatDoor
open Go.RowKit
set_option linter.unusedVariables false
set_option linter.unusedSimpArgs false
set_option maxRecDepth 100000 in
set_option maxHeartbeats 4000000 in
theorem fnExactDualName_walk (s0 : ByteArray) (w : World) (_ : s0.size ≤ 140737488351232) (ad : Addr) (hE : ErrN w ad) (hT : TabN w) :
    Calls Tryz.prog 5 #[.string s0] w fun e w' => e = .returned (.bool true) ∧ Below w.heap.size w w' := by
  by_cases hs0 : s0.size ≤ 1048576
  · obtain ⟨rx, rc, c1, c2⟩ := bothDualName s0 hs0
    have C1 := Lib.hid c1
    have C2 := Lib.hid c2
    have HE := Lib.hid hE
    have HT := Lib.hid hT
    clear c1 c2 hE hT
    have hd0 : decide (1048576 < (s0.size : Int)) = false := by simp; omega
    clear hs0
    have hx : (rx.toList == rx.toList) = true := beq_self_eq_true _
    have hx2 : (rx.toList != rx.toList) = false := by simp
    go_enter Tryz.func5, Tryz.ntmps5
    go_wp2_with fail
    refine (C1.out _).mono ?_
    rintro e w2 ⟨rfl, hb2⟩
    go_wp2_with fail
    refine (C2.out _ _ (HE.out.below hb2) (HT.out.below hb2)).mono ?_
    rintro e w4 ⟨rfl, hb4⟩
    go_wp2
    go_ret
    exact ⟨rfl, bthen hb2 hb4⟩
  · have hd0 : decide (1048576 < (s0.size : Int)) = true := by simp; omega
    go_enter Tryz.func5, Tryz.ntmps5
    go_wp2_with fail
    go_ret
    exact ⟨rfl, Below.refl _ _⟩
end Go.Proofs.YthjgkgknlecjlaaGreatDoor
