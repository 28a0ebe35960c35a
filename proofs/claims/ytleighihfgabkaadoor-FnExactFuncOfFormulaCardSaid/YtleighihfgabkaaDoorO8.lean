/-
  Formulas in the model: DualFormula, PutFormulas.
-/
import Derived.Test.YtleighihfgabkaaDoorO7
namespace Go.Proofs.YtleighihfgabkaaDoor
open Go.RowKit
set_option linter.unusedVariables false
set_option linter.unusedSimpArgs false

/-- A text that is not too long, and the code. -/
def toldS (s : ByteArray) : ByteArray := if 60 < s.size then ⟨#[]⟩ else s
def toldC (s : ByteArray) : Int := if 60 < s.size then 3 else 0
set_option maxRecDepth 100000 in
set_option maxHeartbeats 2000000 in
theorem l05Told_any (s : ByteArray) (hs : s.size ≤ 1048576) (w : World) :
    Calls Tryd.prog 57 #[.string s] w fun e w' => e = .returned (.tuple #[.string (toldS s), .int .i64 (toldC s)]) ∧ w = w' := by
  unfold toldS toldC
  by_cases h : 60 < s.size
  · have c1 : decide ((60 : Int) < (s.size : Int)) = true := by simp; omega
    rw [if_pos h, if_pos h]
    go_enter Tryd.func57, Tryd.ntmps57
    go_wp2_with fail
    go_ret2
    exact ⟨rfl, rfl⟩
  · have c1 : decide ((60 : Int) < (s.size : Int)) = false := by simp; omega
    rw [if_neg h, if_neg h]
    go_enter Tryd.func57, Tryd.ntmps57
    go_wp2_with fail
    go_ret2
    exact ⟨rfl, rfl⟩
set_option maxRecDepth 100000 in
set_option maxHeartbeats 2000000 in
theorem specDualFormula_no {s : ByteArray} (hs : s.size ≤ 1048576) (h : isFm s = false) (w : World) :
    Calls Tryd.prog 27 #[.string s] w fun e w' => e = .returned (.tuple #[.string ⟨#[]⟩, .int .i64 6]) ∧ Below w.heap.size w w' := by
  have H := Lib.hid (l05Is_is hs h)
  clear h
  go_enter Tryd.func27, Tryd.ntmps27
  go_wp2_with (go_at_call 43; refine (H.out _).mono ?_; rintro e w' ⟨rfl, rfl⟩)
  go_ret2
  exact ⟨rfl, Below.refl _ _⟩
set_option maxRecDepth 100000 in
set_option maxHeartbeats 2000000 in
theorem specDualFormula_yes {f : Fm} (wf : f.wf) (h : f.txt.length ≤ 60) (w : World) :
    Calls Tryd.prog 27 #[.string f.bytes] w fun e w' => e = .returned (.tuple #[.string (toldS f.dual.bytes), .int .i64 (toldC f.dual.bytes)]) ∧ Below w.heap.size w w' := by
  have H := Lib.hid (l05Is_is (by rw [f.bytes_size]; omega) (fm_yes wf h))
  have S := Lib.hid (l05Dual_any 60 f wf h (by omega))
  have T := Lib.hid (l05Told_any f.dual.bytes (by rw [Fm.bytes_size]; have := f.dual_len; omega))
  go_enter Tryd.func27, Tryd.ntmps27
  go_wp2_with (first
    | (go_at_call 43; refine (H.out _).mono ?_; rintro e w' ⟨rfl, rfl⟩)
    | (go_at_call 58; refine (S.out _).mono ?_; rintro e w2 ⟨rfl, hb2⟩)
    | (go_at_call 57; refine (T.out _).mono ?_; rintro e w' ⟨rfl, rfl⟩))
  go_ret2
  exact ⟨rfl, hb2⟩
/-- A formula with the four formulas of a list put into it. -/
def putB (xs : List ByteArray) (c : UInt8) : List UInt8 := if 97 ≤ c.toNat ∧ c.toNat ≤ 100 then ((xs[c.toNat - 97]?).getD ⟨#[]⟩).data.toList else [c]
def putS (xs : List ByteArray) (l : List UInt8) : ByteArray := ⟨(l.flatMap (putB xs)).toArray⟩
theorem putS_snoc (xs : List ByteArray) (l : List UInt8) (c : UInt8) : putS xs (l ++ [c]) = putS xs l ++ ⟨(putB xs c).toArray⟩ := by
  apply ByteArray.ext
  simp [putS, ByteArray.data_append, List.flatMap_append]
theorem putS_size {xs : List ByteArray} (hx : ∀ i (h : i < xs.length), (xs[i]).size ≤ 60) (l : List UInt8) : (putS xs l).size ≤ 60 * l.length := by
  have key : ((l.flatMap (putB xs))).length ≤ 60 * l.length := by
    induction l with
    | nil => simp
    | cons c l ih =>
      have hc : (putB xs c).length ≤ 60 := by
        unfold putB
        split
        · by_cases h : c.toNat - 97 < xs.length
          · rw [List.getElem?_eq_getElem h, Option.getD_some, Array.length_toList]
            exact hx _ h
          · rw [List.getElem?_eq_none (by omega)]
            simp
        · simp
      rw [List.flatMap_cons, List.length_append, List.length_cons]
      omega
  have e : (putS xs l).size = (l.flatMap (putB xs)).length := by
    show (l.flatMap (putB xs)).toArray.size = _
    simp
  omega
theorem extract_one (s : ByteArray) (k : Nat) (h : k < s.size) : s.extract k (k + 1) = ⟨#[s[k]]⟩ := by
  apply ByteArray.ext
  rw [ByteArray.data_extract]
  apply Array.toList_inj.1
  rw [Array.toList_extract]
  show (s.data.toList.drop k).take (k + 1 - k) = [s[k]]
  rw [drop_byte s k h, show k + 1 - k = 1 by omega]
  rfl
/-- Are the first j of a list formulas? -/
def allFm (xs : List ByteArray) (j : Nat) : Bool := (xs.take j).all isFm
theorem allFm_no {xs : List ByteArray} {j : Nat} (h : j < xs.length) (hf : isFm xs[j] = false) : allFm xs xs.length = false := by
  unfold allFm
  rw [List.take_length, List.all_eq_false]
  exact ⟨xs[j], List.getElem_mem h, by rw [hf]; decide⟩
theorem allFm_get {xs : List ByteArray} (h : allFm xs xs.length = true) (j : Nat) (hj : j < xs.length) : isFm xs[j] = true := by
  unfold allFm at h
  rw [List.take_length, List.all_eq_true] at h
  exact h _ (List.getElem_mem hj)
set_option maxRecDepth 100000 in
set_option maxHeartbeats 2000000 in
theorem specPutFormulas_no {s : ByteArray} (hs : s.size ≤ 1048576) (h : isFm s = false) (v : Value) (w : World) :
    Calls Tryd.prog 30 #[.string s, v] w fun e w' => e = .returned (.tuple #[.string ⟨#[]⟩, .int .i64 6]) ∧ Below w.heap.size w w' := by
  have H := Lib.hid (l05Is_is hs h)
  clear h
  go_enter Tryd.func30, Tryd.ntmps30
  go_wp2_with (go_at_call 43; refine (H.out _).mono ?_; rintro e w' ⟨rfl, rfl⟩)
  go_ret2
  exact ⟨rfl, Below.refl _ _⟩
set_option maxRecDepth 100000 in
set_option maxHeartbeats 16000000 in
theorem specPutFormulas_yes {s : ByteArray} (hs : s.size ≤ 1048576) (h : isFm s = true) {base : Nat} {v : Value} {xs : List ByteArray} (hx : ∀ i (h : i < xs.length), (xs[i]).size ≤ 1048576) (hl : xs.length ≤ 1048576) (w : World) (ho : OwnsS w base v xs)
    {R : ByteArray} {c : Int} (hR : (allFm xs xs.length = false ∧ R = ⟨#[]⟩ ∧ c = 6) ∨ (allFm xs xs.length = true ∧ xs.length ≠ 4 ∧ R = ⟨#[]⟩ ∧ c = 2) ∨ (allFm xs xs.length = true ∧ xs.length = 4 ∧ R = toldS (putS xs s.data.toList) ∧ c = toldC (putS xs s.data.toList))) :
    Calls Tryd.prog 30 #[.string s, v] w fun e w' => e = .returned (.tuple #[.string R, .int .i64 c]) ∧ Below w.heap.size w w' := by
  have H := Lib.hid (l05Is_is hs h)
  have HR := Lib.hid hR
  obtain ⟨a, cap, hv, hc⟩ := ho.form
  have HC := Lib.hid hc
  have HX := Lib.hid hx
  have hs60 := (isFm_iff.1 h).1
  have hlen : s.data.toList.length ≤ s.size := Nat.le_of_eq Array.length_toList
  subst hv
  clear ho hc hR h hx
  go_enter Tryd.func30, Tryd.ntmps30
  go_wp2_with (go_at_call 43; refine (H.out _).mono ?_; rintro e w' ⟨rfl, rfl⟩)
  go_loopw [6] (fun i wr => ∃ j : Nat, j ≤ xs.length ∧ i = .int .i64 j ∧ w = wr ∧ Hid (∀ q (h : q < xs.length), q < j → isFm xs[q] = true)) (fun i _ => xs.length - (intOf i).toNat)
  case atStart => exact ⟨0, Nat.zero_le _, rfl, rfl, Lib.hid fun q _ h => by omega⟩
  case round =>
    obtain ⟨j, hj, rfl, rfl, HA⟩ := hrel
    by_cases hlt : j < xs.length
    · obtain ⟨g, rfl, hg, hcell⟩ := HC.out (by omega)
      have d1 := hcell j hlt
      cases hb : isFm xs[j]
      · have I := Lib.hid (l05Is_is (HX.out j hlt) hb)
        have E := Lib.hid (show R = ⟨#[]⟩ ∧ c = 6 by
          have hn := allFm_no hlt hb
          rcases HR.out with ⟨_, h1⟩ | ⟨h1, _⟩ | ⟨h1, _⟩
          · exact h1
          · rw [hn] at h1; cases h1
          · rw [hn] at h1; cases h1)
        clear hb hcell HR
        generalize xs[j] = X at *
        go_wp2_with (go_at_call 43; refine (I.out _).mono ?_; rintro e w' ⟨rfl, rfl⟩)
        go_ret2
        exact ⟨by rw [E.out.1, E.out.2]; rfl, Below.refl _ _⟩
      · have I := Lib.hid (l05Is_is (HX.out j hlt) hb)
        have HA2 : Hid (∀ q (h : q < xs.length), q < j + 1 → isFm xs[q] = true) := Lib.hid fun q hq hq2 => by
          by_cases e : q = j
          · subst e; exact hb
          · exact HA.out q hq (by omega)
        clear hb hcell HA
        generalize xs[j] = X at *
        go_wp2_with (go_at_call 43; refine (I.out _).mono ?_; rintro e w' ⟨rfl, rfl⟩)
        go_roundw
        case rel => exact ⟨j + 1, by omega, by go_num, (by first | exact True.intro | rfl), HA2⟩
        case measure => simp [intOf]; omega
    · obtain rfl : j = xs.length := by omega
      have hall : allFm xs xs.length = true := by
        unfold allFm
        rw [List.take_length, List.all_eq_true]
        intro y hy
        obtain ⟨q, hq, rfl⟩ := List.getElem_of_mem hy
        exact HA.out q hq hq
      by_cases h4 : xs.length = 4
      · have HS := Lib.hid (show R = toldS (putS xs s.data.toList) ∧ c = toldC (putS xs s.data.toList) by
          rcases HR.out with ⟨h1, _⟩ | ⟨_, h1, _⟩ | ⟨_, _, h1⟩
          · rw [hall] at h1; cases h1
          · exact absurd h4 h1
          · exact h1)
        have PZ := Lib.hid (putS_size (xs := xs) (fun i hi => (isFm_iff.1 (HA.out i hi hi)).1))
        obtain ⟨g, rfl, hg, hcell⟩ := HC.out (by omega)
        have DC := Lib.hid hcell
        have L4 := Lib.hid h4
        have c4 : ((xs.length : Int) != 4) = false := by simp [h4]
        clear hall h4 HA HR hcell HC H
        go_wp2_with fail
        go_loopw [7, 8] (fun m i wr => ∃ k : Nat, k ≤ s.size ∧ i = .int .i64 k ∧ m = .string (putS xs (s.data.toList.take k)) ∧ w = wr) (fun _ i _ => s.size - (intOf i).toNat)
        case atStart => exact ⟨0, Nat.zero_le _, rfl, rfl, rfl⟩
        case round =>
          obtain ⟨k, hk, rfl, rfl, rfl⟩ := hrel
          by_cases hlt : k < s.size
          · have T := Lib.hid (take_byte s k hlt)
            have PS := Lib.hid (putS_snoc xs (s.data.toList.take k) s[k])
            have z1 : (putS xs (s.data.toList.take k)).size ≤ 3600 := by
              have h1 := PZ.out (s.data.toList.take k)
              have h2 : (s.data.toList.take k).length ≤ 60 := by rw [List.length_take]; omega
              omega
            by_cases h1 : 97 ≤ s[k].toNat ∧ s[k].toNat ≤ 100
            · obtain ⟨h1, h2⟩ := h1
              obtain ⟨q, hq⟩ : ∃ q, s[k].toNat = 97 + q := ⟨s[k].toNat - 97, by omega⟩
              have hq4 : q < 4 := by omega
              have hqx : q < xs.length := by have := L4.out; omega
              have c1 : decide ((97 : Int) ≤ (s[k].toNat : Int)) = true := by simp; omega
              have c2 : decide ((s[k].toNat : Int) ≤ 100) = true := by simp; omega
              have eQ : IntKind.u8.wrap ((s[k].toNat : Int) - 97) = (q : Int) := by
                unfold IntKind.wrap
                simp [IntKind.bits, IntKind.signed]
                omega
              have d1 := DC.out q hqx
              have EB := Lib.hid (show (⟨(putB xs s[k]).toArray⟩ : ByteArray) = xs[q] by
                unfold putB
                rw [if_pos ⟨by omega, by omega⟩, show s[k].toNat - 97 = q by omega, List.getElem?_eq_getElem hqx]
                rfl)
              have z2 : (xs[q]).size ≤ 1048576 := HX.out q hqx
              have EP := Lib.hid (show putS xs (s.data.toList.take (k + 1)) = putS xs (s.data.toList.take k) ++ xs[q] by rw [T.out, PS.out, EB.out])
              clear EB hq h1 h2
              generalize xs[q] = X at *
              have n1 : ¬ (9223372036854775807 < (putS xs (s.data.toList.take k)).size + X.size) := by omega
              go_wp2_with fail
              go_roundw
              case rel => exact ⟨k + 1, by omega, by go_num, by rw [EP.out], (by first | exact True.intro | rfl)⟩
              case measure => simp [intOf]; omega
            · have EP := Lib.hid (show putS xs (s.data.toList.take (k + 1)) = putS xs (s.data.toList.take k) ++ s.extract k (k + 1) by
                rw [T.out, PS.out, extract_one s k hlt]
                congr 1
                unfold putB
                rw [if_neg h1])
              have z2 : (s.extract k (k + 1)).size ≤ 1 := by rw [ByteArray.size_extract]; omega
              have n1 : ¬ (9223372036854775807 < (putS xs (s.data.toList.take k)).size + (s.extract k (k + 1)).size) := by omega
              have eK : IntKind.i64.wrap ((k : Int) + 1) = ((k + 1 : Nat) : Int) := by rw [wrap64_small (by omega) (by omega)]; omega
              by_cases h2 : 97 ≤ s[k].toNat
              · have c1 : decide ((97 : Int) ≤ (s[k].toNat : Int)) = true := by simp; omega
                have c2 : decide ((s[k].toNat : Int) ≤ 100) = false := by simp; omega
                clear h1 h2
                go_wp2_with fail
                go_roundw
                case rel => exact ⟨k + 1, by omega, by go_num, by rw [EP.out], (by first | exact True.intro | rfl)⟩
                case measure => simp [intOf]; omega
              · have c1 : decide ((97 : Int) ≤ (s[k].toNat : Int)) = false := by simp; omega
                clear h1 h2
                go_wp2_with fail
                go_roundw
                case rel => exact ⟨k + 1, by omega, by go_num, by rw [EP.out], (by first | exact True.intro | rfl)⟩
                case measure => simp [intOf]; omega
          · obtain rfl : k = s.size := by omega
            have e : s.data.toList.take s.size = s.data.toList := List.take_of_length_le hlen
            rw [e]
            have z1 : (putS xs s.data.toList).size ≤ 3600 := by
              have h1 := PZ.out s.data.toList
              omega
            have TD := Lib.hid (l05Told_any (putS xs s.data.toList) (by omega))
            clear e hlen PZ
            go_wp2_with (go_at_call 57; refine (TD.out _).mono ?_; rintro e w' ⟨rfl, rfl⟩)
            go_ret2
            exact ⟨by rw [HS.out.1, HS.out.2]; rfl, Below.refl _ _⟩
      · have E := Lib.hid (show R = ⟨#[]⟩ ∧ c = 2 by
          rcases HR.out with ⟨h1, _⟩ | ⟨_, _, h1⟩ | ⟨_, h1, _⟩
          · rw [hall] at h1; cases h1
          · exact h1
          · exact absurd h1 h4)
        have c4 : ((xs.length : Int) != 4) = true := by simp; omega
        clear hall h4 HA HR
        go_wp2_with fail
        go_ret2
        exact ⟨by rw [E.out.1, E.out.2]; rfl, Below.refl _ _⟩
end Go.Proofs.YtleighihfgabkaaDoor
