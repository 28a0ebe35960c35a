/-
  ParseFunc in both packages, whatever text comes in.
-/
import Derived.Test.YtkemegiofiemfabV2
namespace Go.Proofs.Ytkemegiofiemfab
open Go.RowKit
set_option linter.unusedVariables false
set_option linter.unusedSimpArgs false

theorem bt58 {s : ByteArray} {k : Nat} (h : k < s.size) : s.data.toList[k]? = some 58 ↔ bt s k = 58 := by
  have h' : k < s.data.size := h
  have e : s.data.toList[k]? = some s[k] := by
    rw [Array.getElem?_toList, Array.getElem?_eq_getElem h']
    rfl
  rw [e]
  simp only [bt, h, dif_pos, Option.some.injEq]
  constructor
  · intro h1; rw [h1]; rfl
  · intro h1; exact UInt8.toNat_inj.1 h1

theorem bt_extract (s : ByteArray) (a b k : Nat) (hb : b ≤ s.size) (hk : a + k < b) : bt (s.extract a b) k = bt s (a + k) := by
  have h1 : k < (s.extract a b).size := by rw [ByteArray.size_extract]; omega
  have h2 : a + k < s.size := by omega
  simp only [bt, h1, h2, dif_pos]
  rw [ByteArray.getElem_extract]

theorem implParseFunc_any (s : ByteArray) (hs : s.size ≤ 1048576) (w : World) :
    Calls Try.prog 29 #[.string s] w (ParsePost (rdOk s) (txN s) (rdB s) w) := by
  have hlen : s.data.toList.length = s.size := by rw [Array.length_toList]; rfl
  have hge := Lib.indexByte_ge s.data.toList 58
  by_cases hi : Lib.indexByte s.data.toList 58 = -1
  · have hno := Lib.indexByte_none hi
    have hr : rdOk s = false := by
      unfold rdOk
      by_cases h3 : 3 ≤ s.size
      · have h1 : ¬ bt s 1 = 58 := fun e => hno 1 ((bt58 (by omega)).2 e)
        simp [h1]
      · simp [h3]
    rw [hr]
    exact ParseFunc_none hs hi _ _ w
  · obtain ⟨o, ho⟩ : ∃ o : Nat, Lib.indexByte s.data.toList 58 = (o : Int) := Int.eq_ofNat_of_zero_le (by omega)
    obtain ⟨hat, hbefore⟩ := Lib.indexByte_some ho
    have hos : o < s.size := by rw [← hlen]; exact (List.getElem?_eq_some_iff.1 hat).1
    have hC := Lib.hid fun W => Cut_some hs hos ho W
    have hHs : (s.extract 0 o).size = o := by rw [ByteArray.size_extract]; omega
    have hTs : (s.extract (o + 1) s.size).size = s.size - (o + 1) := by rw [ByteArray.size_extract]; omega
    by_cases h1 : o = 1
    · subst h1
      have hb0 : bt (s.extract 0 1) 0 = bt s 0 := by have := bt_extract s 0 1 0 (by omega) (by omega); simpa using this
      have hb1 : bt s 1 = 58 := (bt58 hos).1 hat
      by_cases hbig : 16 < s.size - 2
      · have hr : rdOk s = false := by
          unfold rdOk
          cases hn : inB (txN s) 0 4
          · simp
          · have hn2 : 0 ≤ txN s ∧ txN s ≤ 4 := by simpa [inB] using hn
            obtain ⟨R, hR, r0, r16, he⟩ := rowsN_eq hn2.1 hn2.2
            have e : (s.size == 2 + txR s) = false := by unfold txR; rw [← he]; simp; omega
            rw [e]
            simp
        rw [hr]
        exact ParseFunc_off hC (.inr ⟨by rw [hHs]; rfl, by rw [hTs]; simp; omega⟩) _ _ w
      · have hxs : ∀ j, j ≤ s.size - 2 → tv (s.extract (1 + 1) s.size) j = xsTo s j := by
          intro j hj
          unfold tv xsTo
          refine List.map_congr_left fun r hr => ?_
          have hr' := List.mem_range.1 hr
          rw [bt_extract s (1 + 1) s.size r (Nat.le_refl _) (by omega), show 1 + 1 + r = r + 2 by omega]
        have hn0 : ((bt (s.extract 0 1) 0 : Int) - 48) = txN s := by unfold txN; rw [hb0]
        have hok : (inB ((bt (s.extract 0 1) 0 : Int) - 48) 0 4 && (s.size - 2 == 2 ^ ((bt (s.extract 0 1) 0 : Int) - 48).toNat && (tv (s.extract (1 + 1) s.size) (s.size - 2)).all fun v => inB v 0 1)) = rdOk s := by
          rw [hn0, hxs _ (Nat.le_refl _)]
          unfold rdOk
          rw [hb1]
          have hp : 0 < txR s := Nat.pow_pos (by decide)
          by_cases hz : s.size = 2 + txR s
          · have e1 : s.size - 2 = txR s := by omega
            have e2 : 3 ≤ s.size := by omega
            rw [e1, show (txR s == 2 ^ (txN s).toNat) = true from by simp [txR], show (s.size == 2 + txR s) = true from by simp [hz], show decide (3 ≤ s.size) = true from by simp; omega]
            simp
          · have e1 : (s.size == 2 + txR s) = false := by simp [hz]
            have e2 : (s.size - 2 == 2 ^ (txN s).toNat) = false := by
              have : 2 ^ (txN s).toNat = txR s := rfl
              simp
              omega
            rw [e1, e2]
            simp
        have M := ParseFunc_main hC hHs (L := s.size - 2) (by rw [hTs]) (by omega) hok w
        rw [hn0, hxs _ (Nat.le_refl _)] at M
        cases hr : rdOk s
        · rw [hr] at M
          exact M
        · rw [hr] at M
          have hz : s.size = 2 + txR s := by
            unfold rdOk at hr
            simp at hr
            exact hr.2.2.2.1
          unfold rdB
          rw [show s.size - 2 = txR s by omega] at M
          exact M
    · have hr : rdOk s = false := by
        unfold rdOk
        by_cases h3 : 3 ≤ s.size
        · by_cases h0 : o = 0
          · subst h0
            have hb : bt s 0 = 58 := (bt58 (by omega)).1 hat
            have : inB (txN s) 0 4 = false := by unfold txN; rw [hb]; decide
            simp [this]
          · have hb : ¬ bt s 1 = 58 := fun e => hbefore 1 (by omega) ((bt58 (by omega)).2 e)
            simp [hb]
        · simp [h3]
      rw [hr]
      exact ParseFunc_off hC (.inl (by rw [hHs]; simp; omega)) _ _ w
end Go.Proofs.Ytkemegiofiemfab
