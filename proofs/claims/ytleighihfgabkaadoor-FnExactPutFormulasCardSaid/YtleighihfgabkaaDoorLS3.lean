/-
  Lists of texts that come in: counted, copied.
-/
import Derived.Test.YtleighihfgabkaaDoorLS2
namespace Go.Proofs.YtleighihfgabkaaDoor
open Go.RowKit
set_option linter.unusedVariables false
set_option linter.unusedSimpArgs false
theorem wrap64_any {x : Int} (h0 : -9223372036854775808 ≤ x) (h1 : x < 9223372036854775808) : IntKind.i64.wrap x = x := by
  simp [IntKind.wrap, IntKind.bits, IntKind.signed]; omega
/-- A list of texts that came in. -/
def ArgS (W : World) (s : Value) (xs : List ByteArray) : Prop :=
  ∃ (a : Option Addr) (cap : Nat), s = .slice a xs.length cap ∧ xs.length ≤ 9223372036854775807 ∧ (0 < xs.length → ∃ b off, a = some ⟨b, off, none⟩ ∧ ∀ j (hj : j < xs.length), W.cell? ⟨b, off + j, none⟩ = some (.string xs[j])) ∧ ∀ j (hj : j < xs.length), (xs[j]).size ≤ 9223372036854775807
theorem ArgS.below {W W' : World} {s : Value} {xs : List ByteArray} (h : ArgS W s xs) (hb : Below W.heap.size W W') : ArgS W' s xs := by
  obtain ⟨a, cap, e, hl, hc, hz⟩ := h
  refine ⟨a, cap, e, hl, fun hp => ?_, hz⟩
  obtain ⟨b, off, ea, hcc⟩ := hc hp
  exact ⟨b, off, ea, fun j hj => kc hb (hcc j hj)⟩
theorem argS_mk {W : World} {x : Addr} {len cap : Nat} {Sx : Nat → ByteArray} (hm : cap ≤ maxLen) (hl : len ≤ cap) (hx : ∀ i, i < len → W.cell? (x.add i) = some (.string (Sx i)) ∧ (Sx i).size ≤ maxLen) : ∃ zs, ArgS W (.slice (some x) len cap) zs := by
  have hlen : ((List.range len).map Sx).length = len := by simp
  unfold maxLen at hm hx
  refine ⟨(List.range len).map Sx, some x, cap, by rw [hlen], by rw [hlen]; omega, fun hp => ?_, fun j hj => ?_⟩
  · rw [hlen] at hp
    obtain ⟨b, off, sp⟩ := x
    have h00 := (hx 0 hp).1
    have hsp : sp = none := by simpa [Addr.add] using World.cell?_spot h00
    subst hsp
    refine ⟨b, off, rfl, fun j hj => ?_⟩
    rw [hlen] at hj
    have h1 := (hx j hj).1
    have e1 : (⟨b, off, none⟩ : Addr).add j = ⟨b, off + j, none⟩ := by
      simp only [Addr.add]
      split
      · rename_i h; first | (subst h; rfl) | (simp at h; subst h; rfl) | (simp_all)
      · rfl
    rw [e1] at h1
    simpa using h1
  · rw [hlen] at hj
    have h1 := (hx j hj).2
    simpa using h1
/-- What the count says. -/
def SzSay (xs : List ByteArray) (z : Int) : Prop := z < 0 ∨ (0 ≤ z ∧ xs.length ≤ 1048576 ∧ ∀ j (hj : j < xs.length), (xs[j]).size ≤ 1048576)
set_option maxRecDepth 100000 in
set_option maxHeartbeats 4000000 in
theorem szStringS_any {s : Value} {xs : List ByteArray} (w : World) (h : ArgS w s xs) :
    Calls Tryd.prog 29 #[s, .int .i64 1048576] w fun e w' => ∃ z, e = .returned (.int .i64 z) ∧ w = w' ∧ SzSay xs z := by
  obtain ⟨a, cap, rfl, hl, hc, hz⟩ := h
  have HC := Lib.hid hc
  have HZ := Lib.hid hz
  clear hc hz
  have e1 : IntKind.i64.wrap ((1048576 : Int) - (xs.length : Int)) = 1048576 - (xs.length : Int) := by rw [wrap64_any (by omega) (by omega)]
  by_cases hlen : xs.length ≤ 1048576
  · have c1 : decide ((1048576 : Int) - (xs.length : Int) < 0) = false := by simp; omega
    have HLn := Lib.hid hlen
    go_enter Tryd.func29, Tryd.ntmps29
    go_wp2_with fail
    go_loopw [1, 5] (fun q i wr => ∃ (j : Nat) (L : Int), j ≤ xs.length ∧ i = .int .i64 (j : Nat) ∧ q = .int .i64 L ∧ (0 ≤ L ∧ L ≤ 1048576) ∧ Hid (∀ k (hk : k < xs.length), k < j → (xs[k]).size ≤ 1048576) ∧ w = wr) (fun _ i _ => xs.length - (intOf i).toNat)
    case atStart => exact ⟨0, _, Nat.zero_le _, rfl, rfl, ⟨by omega, by omega⟩, Lib.hid fun k _ h => by omega, rfl⟩
    case round =>
      obtain ⟨j, L, hj, rfl, rfl, ⟨hL0, hL1⟩, HA, rfl⟩ := hrel
      by_cases hlt : j < xs.length
      · obtain ⟨b, off, rfl, hcell⟩ := HC.out (by omega)
        have d1 := hcell j hlt
        have hz := HZ.out j hlt
        obtain ⟨t, ht⟩ : ∃ t, xs[j] = t := ⟨_, rfl⟩
        have HTT := Lib.hid ht
        rw [ht] at d1 hz
        have e2 : IntKind.i64.wrap (L - (t.size : Int)) = L - (t.size : Int) := by rw [wrap64_any (by omega) (by omega)]
        have hlt2 : decide ((j : Int) < (xs.length : Int)) = true := by simp; omega
        have hj0 : (0 : Int) ≤ (j : Int) := by omega
        clear hcell ht
        by_cases hneg : L - (t.size : Int) < 0
        · have c2 : decide (L - (t.size : Int) < 0) = true := by simp; omega
          go_wp2_with fail
          go_ret
          exact ⟨-1, rfl, rfl, .inl (by decide)⟩
        · have c2 : decide (L - (t.size : Int) < 0) = false := by simp; omega
          have HA2 : Hid (∀ k (hk : k < xs.length), k < j + 1 → (xs[k]).size ≤ 1048576) := Lib.hid fun k hk hk2 => by
            by_cases e : k = j
            · subst e; rw [HTT.out]; omega
            · exact HA.out k hk (by omega)
          clear HA
          go_wp2_with fail
          go_roundw
          case rel => exact ⟨j + 1, L - (t.size : Int), by omega, by go_num, rfl, ⟨by omega, by omega⟩, HA2, (by first | exact True.intro | rfl)⟩
          case measure => simp [intOf]; omega
      · obtain rfl : j = xs.length := by omega
        have hlt2 : decide ((xs.length : Int) < (xs.length : Int)) = false := by simp
        go_wp2_with fail
        go_ret
        exact ⟨L, rfl, rfl, .inr ⟨hL0, HLn.out, fun k hk => HA.out k hk hk⟩⟩
  · have c1 : decide ((1048576 : Int) - (xs.length : Int) < 0) = true := by simp; omega
    go_enter Tryd.func29, Tryd.ntmps29
    go_wp2_with fail
    go_ret
    exact ⟨-1, rfl, rfl, .inl (by decide)⟩
theorem copyS_step (xs : List ByteArray) (vs : List Value) (i : Nat) (hi : i < xs.length) (hv : i < vs.length) : (strs (xs.take i) ++ vs.drop i).set i (.string xs[i]) = strs (xs.take (i + 1)) ++ vs.drop (i + 1) := by
  have hl : (strs (xs.take i)).length = i := by simp [strs]; omega
  rw [List.set_append_right _ _ (by omega), hl, Nat.sub_self, List.take_succ_eq_append_getElem hi, strs_snoc, List.drop_eq_getElem_cons hv, List.set_cons_zero]
  simp
def CopyPost (xs : List ByteArray) (w : World) (e : Ending) (w' : World) : Prop := ∃ s, e = .returned s ∧ OwnsS w' w.heap.size s xs ∧ Below w.heap.size w w'
set_option maxRecDepth 100000 in
set_option maxHeartbeats 4000000 in
theorem toStringS_any {s : Value} {xs : List ByteArray} (hl : xs.length ≤ 1048576) (w : World) (h : ArgS w s xs) :
    Calls Tryd.prog 31 #[s] w (CopyPost xs w) := by
  obtain ⟨i0, hi, hz0, hz1, hz2⟩ := info_parts infoStr
  obtain ⟨a, cap, rfl, _, hc, _⟩ := h
  have HC := Lib.hid hc
  clear hc
  obtain ⟨n, hn⟩ : ∃ n, xs.length = n := ⟨_, rfl⟩
  have HN := Lib.hid hn
  rw [hn] at hl ⊢
  clear hn
  go_enter Tryd.func31, Tryd.ntmps31
  go_wp2_with (at_make; refine wpList_make_full _ rfl _ _ 38 rfl w.heap.size 9 i0 (.string ⟨#[]⟩) 1 Tryd.underlying38 hi hz0 hz1 .i64 .i64 _ _ n rfl rfl rfl rfl (by rw [hz2]; omega) (by unfold maxLen; omega) (Nat.le_refl _) ?_; intro w1 hown1 hgrow1)
  have hB : Below w.heap.size w w1 := (Below.refl _ _).grown hgrow1 (Nat.le_refl _) (fun j e => by cases e)
  have hvl := hown1.1
  generalize (madeCells (Value.string ⟨#[]⟩).cells (n * 1)).toList = vs at hown1 hvl
  clear hgrow1
  go_loopw [4] (fun i' wr => ∃ i : Nat, i ≤ n ∧ i' = .int .i64 (i : Nat) ∧ wr.ownsRow w.heap.size 9 1 (.slice (some ⟨w.heap.size, 0, none⟩) n n) n (strs (xs.take i) ++ vs.drop i) ∧ Below w.heap.size w wr) (fun i' _ => n - (intOf i').toNat)
  case atStart => exact ⟨0, Nat.zero_le _, rfl, by simpa [strs] using hown1, hB⟩
  case round =>
    clear hown1 hB
    obtain ⟨i, hi', rfl, ho, hN⟩ := hrel
    by_cases hlt : i < n
    · have hx : i < xs.length := by have := HN.out; omega
      obtain ⟨b, off, rfl, hcell⟩ := HC.out (by omega)
      have hsrc := kc hN (hcell i hx)
      obtain ⟨u, hu⟩ : ∃ u, wr.cell? ⟨w.heap.size, i, none⟩ = some u := by
        rw [ho.cellAt i (by omega)]
        exact ⟨_, List.getElem?_eq_getElem (by simp [strs]; omega)⟩
      have hfz := ho.frozenAt i
      have hst := ho.stored i (.string xs[i])
      rw [copyS_step xs vs i hx (by omega)] at hst
      have HST := Lib.hid hst.1
      have hlt2 : decide ((i : Int) < (n : Int)) = true := by simp; omega
      generalize xs[i] = t at hsrc HST
      have HNN := Lib.hid hN
      clear hst ho hvl hcell hx hN
      go_wp2
      go_roundw
      case rel => exact ⟨i + 1, by omega, by go_num, HST.out, HNN.out.setCell (p := ⟨w.heap.size, i, none⟩) (Nat.le_refl _) _⟩
      case measure => simp [intOf]; omega
    · obtain rfl : i = n := by omega
      have ho' := Lib.hid ho
      have hd := Lib.hid (List.drop_of_length_le (l := vs) (i := i) (by omega))
      have ht := Lib.hid (List.take_of_length_le (l := xs) (i := i) (by have := HN.out; omega))
      have hlt2 : decide ((i : Int) < (i : Int)) = false := by simp
      have HNN := Lib.hid hN
      clear ho hvl hN
      go_wp2
      go_ret
      refine ⟨_, rfl, ?_, HNN.out⟩
      have := ho'.out
      rw [hd.out, ht.out, List.append_nil] at this
      unfold OwnsS
      rw [HN.out]
      exact this
end Go.Proofs.YtleighihfgabkaaDoor
