/-
  Formulas put into formulas: areFormulas, putInto, PutFormulas of the program.
-/
import Derived.Test.YtleighihfgabkaaDoorPF6
import Derived.Test.YtleighihfgabkaaDoorO8
import Derived.Test.YtleighihfgabkaaDoorBW
import Derived.Test.YtleighihfgabkaaDoorSH
import Derived.Test.YtleighihfgabkaaDoorLS2
namespace Go.Proofs.YtleighihfgabkaaDoor
open Go.RowKit
set_option linter.unusedVariables false
set_option linter.unusedSimpArgs false
set_option maxRecDepth 100000 in
set_option maxHeartbeats 4000000 in
theorem areFormulas_any {base : Nat} {v : Value} {xs : List ByteArray} (hl : xs.length ≤ 1048576) {ad : Addr} (w : World) (ho : OwnsS w base v xs) (hE : ErrAt w ad) :
    Calls Tryd.prog 61 #[v] w fun e w' => e = .returned (.bool (allFm xs xs.length)) ∧ Below w.heap.size w w' := by
  obtain ⟨a, cap, rfl, hc⟩ := ho.cellsS
  have HC := Lib.hid hc
  have HE := Lib.hid (fun w' (hb : Below w.heap.size w w') => hE.below hb)
  clear ho hc hE
  go_enter Tryd.func61, Tryd.ntmps61
  go_wp2_with fail
  go_loopw [7] (fun i wr => ∃ j : Nat, j ≤ xs.length ∧ i = .int .i64 (j : Nat) ∧ Hid (∀ q (h : q < xs.length), q < j → isFm xs[q] = true) ∧ Below w.heap.size w wr) (fun i _ => xs.length - (intOf i).toNat)
  case atStart => exact ⟨0, Nat.zero_le _, rfl, Lib.hid fun q _ h => by omega, Below.refl _ _⟩
  case round =>
    obtain ⟨j, hj, rfl, HA, hN⟩ := hrel
    by_cases hlt : j < xs.length
    · obtain ⟨g, rfl, _, _, hcell⟩ := HC.out (by omega)
      have d1 := kc hN (hcell j hlt)
      have I := Lib.hid (implIsFormula_any xs[j] wr (HE.out wr hN))
      have hlt2 : decide ((j : Int) < (xs.length : Int)) = true := by simp; omega
      cases hb : isFm xs[j]
      · rw [hb] at I
        have E := Lib.hid (allFm_no hlt hb)
        clear hb hcell
        generalize xs[j] = X at *
        go_wp2_with (go_at_call 14; refine (I.out).mono ?_; rintro e w3 ⟨rfl, hb3⟩)
        go_ret
        exact ⟨by rw [E.out]; try rfl, bthen hN hb3⟩
      · rw [hb] at I
        have HA2 : Hid (∀ q (h : q < xs.length), q < j + 1 → isFm xs[q] = true) := Lib.hid fun q hq hq2 => by
          by_cases e : q = j
          · subst e; exact hb
          · exact HA.out q hq (by omega)
        clear hb hcell HA
        generalize xs[j] = X at d1 I
        go_wp2_with (go_at_call 14; refine (I.out).mono ?_; rintro e w3 ⟨rfl, hb3⟩)
        go_roundw
        case rel => exact ⟨j + 1, by omega, by go_num, HA2, bthen hN hb3⟩
        case measure => simp [intOf]; omega
    · obtain rfl : j = xs.length := by omega
      have hall : allFm xs xs.length = true := by
        unfold allFm
        rw [List.take_length, List.all_eq_true]
        intro y hy
        obtain ⟨q, hq, rfl⟩ := List.getElem_of_mem hy
        exact HA.out q hq hq
      have hlt2 : decide ((xs.length : Int) < (xs.length : Int)) = false := by simp
      have E := Lib.hid hall
      clear hall
      go_wp2_with fail
      go_ret
      exact ⟨by rw [E.out]; try rfl, hN⟩
theorem index_var {z : UInt8} : Lib.indexByte (⟨#[97, 98, 99, 100]⟩ : ByteArray).data.toList z = if 97 ≤ z.toNat ∧ z.toNat ≤ 100 then (z.toNat : Int) - 97 else -1 := by
  have hall : ∀ k < 256, Lib.indexByte [97, 98, 99, 100] (UInt8.ofNat k) = if 97 ≤ k ∧ k ≤ 100 then (k : Int) - 97 else -1 := by decide +kernel
  have := hall z.toNat (UInt8.toNat_lt z)
  rwa [UInt8.ofNat_toNat] at this
theorem strCells_eq (s : ByteArray) : Lib.strCells s = Lib.byteCells s.data.toList := by
  first | rfl | (unfold Lib.strCells Lib.byteCells; simp)
set_option maxRecDepth 100000 in
set_option maxHeartbeats 8000000 in
theorem putInto_any {base : Nat} {v : Value} {xs : List ByteArray} (h4 : xs.length = 4) (hx : ∀ i (h : i < xs.length), (xs[i]).size ≤ 60) {s : ByteArray} (hs : s.size ≤ 60) (w : World) (ho : OwnsS w base v xs) :
    Calls Tryd.prog 62 #[.string s, v] w fun e w' => e = .returned (.string (putS xs s.data.toList)) ∧ Below w.heap.size w w' := by
  obtain ⟨a, cap, rfl, hc⟩ := ho.cellsS
  obtain ⟨g, rfl, _, _, hcell⟩ := hc (by omega)
  have HC := Lib.hid hcell
  have HX := Lib.hid hx
  have L4 := Lib.hid h4
  have IB := Lib.hid (Lib.fresh_isBuilder 100 5 w)
  have HB0 := Lib.hid (bnew w (.cells #[.pointer none, .slice none 0 0] 100))
  have hlen : s.data.toList.length ≤ s.size := Nat.le_of_eq Array.length_toList
  rw [h4]
  clear ho hc hcell h4 hx
  go_enter Tryd.func62, Tryd.ntmps62
  go_wp2_with fail
  go_loopw [10] (fun i wr => ∃ k : Nat, k ≤ s.size ∧ i = .int .i64 (k : Nat) ∧ Hid (Lib.IsBuilder 100 5 w.heap.size w.heap.size (Lib.byteCells ((s.data.toList.take k).flatMap (putB xs))) wr) ∧ Hid (Below w.heap.size w wr)) (fun i _ => s.size - (intOf i).toNat)
  case atStart => exact ⟨0, Nat.zero_le _, rfl, IB, HB0⟩
  case round =>
    clear IB HB0
    obtain ⟨k, hk, rfl, IB, HB⟩ := hrel
    by_cases hlt : k < s.size
    · have T := Lib.hid (take_byte s k hlt)
      have hlt2 : decide ((k : Int) < (s.size : Int)) = true := by simp; omega
      have hsz := HB.out.size
      have PZ := Lib.hid (putS_size HX.out (s.data.toList.take k))
      have hLn : ((s.data.toList.take k).flatMap (putB xs)).length ≤ 3600 := by
        have h1 := PZ.out
        have h2 : (s.data.toList.take k).length ≤ 60 := by rw [List.length_take]; omega
        have h3 : (putS xs (s.data.toList.take k)).size = ((s.data.toList.take k).flatMap (putB xs)).length := by
          show ((s.data.toList.take k).flatMap (putB xs)).toArray.size = _
          simp
        omega
      have HL := Lib.hid hLn
      by_cases h1 : 97 ≤ s[k].toNat ∧ s[k].toNat ≤ 100
      · obtain ⟨q, hq⟩ : ∃ q, s[k].toNat = 97 + q := ⟨s[k].toNat - 97, by omega⟩
        have hq4 : q < 4 := by omega
        have hqx : q < xs.length := by have := L4.out; omega
        have IX := Lib.hid (fun w => stIndexByte_at (s := ⟨#[97, 98, 99, 100]⟩) (z := s[k]) (k := (s[k].toNat : Int)) (i := (q : Int)) rfl (by rw [index_var, if_pos h1]; omega) w)
        have d1 := kc HB.out (HC.out q hqx)
        have EB := Lib.hid (show (s.data.toList.take (k + 1)).flatMap (putB xs) = (s.data.toList.take k).flatMap (putB xs) ++ (xs[q]).data.toList by
          rw [T.out, List.flatMap_append]
          congr 1
          simp only [List.flatMap_cons, List.flatMap_nil, List.append_nil]
          unfold putB
          rw [if_pos h1, show s[k].toNat - 97 = q by omega, List.getElem?_eq_getElem hqx]
          rfl)
        have hX60 := HX.out q hqx
        obtain ⟨t, ht⟩ : ∃ t, xs[q] = t := ⟨_, rfl⟩
        rw [ht] at d1 EB hX60
        have WS := Lib.hid (fun (_ : Unit) => WriteString_any w.heap.size w.heap.size _ t wr IB.out (by rw [Lib.byteCells_length]; omega) HB.out.size)
        have c0 : decide ((0 : Int) ≤ (q : Int)) = true := by simp
        have hq0 : (0 : Int) ≤ (q : Int) := by omega
        clear ht h1 hq hLn
        go_wp2_with (first
          | (go_at_call 85; refine (IX.out _).mono ?_; rintro e w' ⟨rfl, rfl⟩)
          | (go_at_call 86; refine (WS.out ()).mono ?_; rintro e w3 ⟨rfl, hb3, hbb⟩))
        go_roundw
        case rel => exact ⟨k + 1, by omega, by go_num, Lib.hid (.inr (by rw [EB.out]; rw [strCells_eq] at hb3; simpa [Lib.byteCells] using hb3)), Lib.hid (HB.out.trans hbb)⟩
        case measure => simp [intOf]; omega
      · have IX := Lib.hid (fun w => stIndexByte_at (s := ⟨#[97, 98, 99, 100]⟩) (z := s[k]) (k := (s[k].toNat : Int)) (i := -1) rfl (by rw [index_var, if_neg h1]) w)
        have EB := Lib.hid (show (s.data.toList.take (k + 1)).flatMap (putB xs) = (s.data.toList.take k).flatMap (putB xs) ++ [s[k]] by
          rw [T.out, List.flatMap_append]
          congr 1
          simp only [List.flatMap_cons, List.flatMap_nil, List.append_nil]
          unfold putB
          rw [if_neg h1])
        have WB := Lib.hid (fun (_ : Unit) => WriteByte_any w.heap.size w.heap.size _ (s[k].toNat : Int) wr IB.out (by rw [Lib.byteCells_length]; omega) HB.out.size)
        clear h1 hLn
        go_wp2_with (first
          | (go_at_call 85; refine (IX.out _).mono ?_; rintro e w' ⟨rfl, rfl⟩)
          | (go_at_call 87; refine (WB.out ()).mono ?_; rintro e w3 ⟨rfl, hb3, hbb⟩))
        go_roundw
        case rel => exact ⟨k + 1, by omega, by go_num, Lib.hid (.inr (by rw [EB.out]; simpa [Lib.byteCells] using hb3)), Lib.hid (HB.out.trans hbb)⟩
        case measure => simp [intOf]; omega
    · obtain rfl : k = s.size := by omega
      have hlt2 : decide ((s.size : Int) < (s.size : Int)) = false := by simp
      have e : s.data.toList.take s.size = s.data.toList := List.take_of_length_le hlen
      rw [e] at IB
      have ST := Lib.hid (fun (_ : Unit) => Tryd.Builder_String_any w.heap.size w.heap.size _ wr IB.out HB.out.size)
      clear e
      go_wp2_with (go_at_call 88; refine (ST.out ()).mono ?_; rintro e w3 ⟨rfl, hb3⟩)
      go_ret
      exact ⟨rfl, HB.out.trans hb3⟩
end Go.Proofs.YtleighihfgabkaaDoor
