/-
  A list of functions that came in, copied.
-/
import Derived.Test.YtlohldddioikaaaM1
import Derived.Deep.SlicePairs
namespace Go.Proofs.Ytlohldddioikaaa
open Go.RowKit

/-- A slice of structs of two numbers that came in: its numbers are zs. -/
def IsRowF (w : World) (a : Option Addr) (len : Nat) (zs : List (Int × Int)) : Prop :=
  zs.length = len ∧ len ≤ 9223372036854775807 ∧ (len = 0 ∨ ∃ b off, a = some ⟨b, off, none⟩ ∧ b < w.heap.size ∧ Hid (∀ j, j < len → w.cell? ⟨b, off + j * 2, none⟩ = some (.int .i64 (fget zs j).1) ∧ w.cell? ⟨b, off + j * 2 + 1, none⟩ = some (.int .i64 (fget zs j).2)))

/-- A post with 'there is a list of functions'. -/
def FListPost (base : Nat) (xs : List (Int × Int)) (w : World) (e : Ending) (w' : World) : Prop := ∃ s, e = .returned s ∧ OwnsF w' base s xs ∧ Below w.heap.size w w'
def FListCodePost (base : Nat) (xs : List (Int × Int)) (c : Int) (w : World) (e : Ending) (w' : World) : Prop := ∃ s, e = .returned (.tuple #[s, .int .i64 c]) ∧ OwnsF w' base s xs ∧ Below w.heap.size w w'

set_option maxRecDepth 100000 in
set_option maxHeartbeats 2000000 in
theorem toFuncS_any {a : Option Addr} {len cap : Nat} {zs : List (Int × Int)} {w0 : World} (h : IsRowF w0 a len zs) (hl : len ≤ 1048576) (w : World) (hw : Below w0.heap.size w0 w) :
    Calls Try.prog 34 #[.slice a len cap] w (FListPost w.heap.size zs w) := by
  obtain ⟨i0, hi, hz0, hz1, hz2⟩ := info_parts infoF
  obtain ⟨hzl, _, h0 | ⟨b, off, rfl, hb, hc⟩⟩ := h
  · subst h0
    obtain rfl : zs = [] := List.length_eq_zero_iff.1 hzl
    go_enter Try.func34, Try.ntmps34
    go_wp2_with (at_make; refine wpList_make_full _ rfl _ _ 39 rfl w.heap.size 34 i0 (.agg #[.int .i64 0, .int .i64 0]) 2 Try.underlying39 hi hz0 hz1 .i64 .i64 _ _ 0 rfl rfl rfl rfl (by rw [hz2]; decide) (by decide) (Nat.le_refl _) ?_; intro w1 hown1 hgrow1)
    have hB : Below w.heap.size w w1 := (Below.refl _ _).grown hgrow1 (Nat.le_refl _) (fun j e => by cases e)
    generalize (madeCells (Value.agg #[.int .i64 0, .int .i64 0]).cells (0 * 2)).toList = vs at hown1
    obtain rfl : vs = [] := List.length_eq_zero_iff.1 (by simpa using hown1.1)
    have ho := Lib.hid hown1
    clear hown1 hgrow1
    refine wp_loop_rounds 1 ?_
    rw [rounds_succ]
    go_wp2
    go_ret
    refine ⟨.slice (some ⟨w.heap.size, 0, none⟩) 0 0, rfl, ?_, hB⟩
    exact ho.out
  · go_enter Try.func34, Try.ntmps34
    go_wp2_with (at_make; refine wpList_make_full _ rfl _ _ 39 rfl w.heap.size 34 i0 (.agg #[.int .i64 0, .int .i64 0]) 2 Try.underlying39 hi hz0 hz1 .i64 .i64 _ _ len rfl rfl rfl rfl (by rw [hz2]; omega) (by unfold maxLen; omega) (Nat.le_refl _) ?_; intro w1 hown1 hgrow1)
    have hB : Below w.heap.size w w1 := (Below.refl _ _).grown hgrow1 (Nat.le_refl _) (fun j e => by cases e)
    have hvl := hown1.1
    generalize (madeCells (Value.agg #[.int .i64 0, .int .i64 0]).cells (len * 2)).toList = vs at hown1 hvl
    clear hgrow1
    go_loopw [4] (fun i' wr => ∃ i : Nat, i ≤ len ∧ i' = .int .i64 i ∧ wr.ownsRow w.heap.size 34 2 (.slice (some ⟨w.heap.size, 0, none⟩) len len) len (fcells (zs.take i) ++ vs.drop (i * 2)) ∧ Below w.heap.size w wr) (fun i' _ => len - (intOf i').toNat)
    case atStart => exact ⟨0, Nat.zero_le _, rfl, by simpa [fcells] using hown1, hB⟩
    case round =>
      clear hown1 hB
      obtain ⟨i, hi', rfl, ho, hN⟩ := hrel
      by_cases hlt : i < len
      · have hs := hw.size
        obtain ⟨c0, c1⟩ := hc.out i hlt
        have s0 := ((hN.cell (p := ⟨b, off + i * 2, none⟩) (by show b < w.heap.size; omega)).trans (hw.cell (p := ⟨b, off + i * 2, none⟩) hb)).trans c0
        have s1 := ((hN.cell (p := ⟨b, off + i * 2 + 1, none⟩) (by show b < w.heap.size; omega)).trans (hw.cell (p := ⟨b, off + i * 2 + 1, none⟩) hb)).trans c1
        clear c0 c1
        have hHO := Lib.hid ho
        clear ho
        go_wp2_with fail
        refine (toFunc_any (fget zs i).1 (fget zs i).2 _).mono ?_
        rintro e w2 ⟨rfl, hb2⟩
        have hN2 := bthen hN hb2
        have ho : w2.ownsRow w.heap.size 34 2 (.slice (some ⟨w.heap.size, 0, none⟩) len len) len (fcells (zs.take i) ++ vs.drop (i * 2)) := by
          obtain ⟨h1, h2 | ⟨g, cap, cur, e1, e2, e3, r⟩⟩ := hHO.out
          · exact ⟨h1, .inl h2⟩
          · exact ⟨h1, .inr ⟨g, cap, cur, e1, e2, (hb2.block g (Array.getElem?_eq_some_iff.1 e3).1).trans e3, r⟩⟩
        have hlen : (fcells (zs.take i) ++ vs.drop (i * 2)).length = len * 2 := by rw [List.length_append, fcells_length, List.length_take, List.length_drop]; omega
        obtain ⟨u, hu⟩ : ∃ u, w2.cell? ⟨w.heap.size, i * 2, none⟩ = some u := by
          rw [ho.cellAt (i * 2) (by omega)]
          exact ⟨_, List.getElem?_eq_getElem (by omega)⟩
        obtain ⟨u2, hu2⟩ : ∃ u, w2.cell? ⟨w.heap.size, i * 2 + 1, none⟩ = some u := by
          rw [ho.cellAt (i * 2 + 1) (by omega)]
          exact ⟨_, List.getElem?_eq_getElem (by omega)⟩
        have hfz := ho.frozenAt (i * 2)
        have hfz2 := ho.frozenAt (i * 2 + 1)
        obtain ⟨o1, g1⟩ := ho.stored (i * 2) (.int .i64 (fget zs i).1)
        obtain ⟨o2, g2⟩ := o1.stored (i * 2 + 1) (.int .i64 (fget zs i).2)
        rw [fset (zs.take i) vs i (fget zs i) (by rw [List.length_take]; omega) (by omega), ← ftake_snoc zs i (by omega)] at o2
        have HST := Lib.hid o2
        clear o1 o2 g1 g2 ho hvl hlen hHO s0 s1
        go_wp2
        go_roundw
        case rel => exact ⟨i + 1, by omega, by go_num, HST.out, (hN2.setCell (p := ⟨w.heap.size, i * 2, none⟩) (Nat.le_refl _) _).setCell (p := ⟨w.heap.size, i * 2 + 1, none⟩) (Nat.le_refl _) _⟩
        case measure => simp [intOf]; omega
      · obtain rfl : i = len := by omega
        have ho' := Lib.hid ho
        have hd := Lib.hid (List.drop_of_length_le (l := vs) (i := i * 2) (by omega))
        have ht := Lib.hid (List.take_of_length_le (l := zs) (i := i) (by omega))
        have hll := Lib.hid hzl
        clear ho hvl hzl
        go_wp2
        go_ret
        refine ⟨_, rfl, ?_, hN⟩
        unfold OwnsF
        rw [hll.out]
        have := ho'.out
        rw [hd.out, List.append_nil, ht.out] at this
        exact this

/-- From what is told of a slice of structs at each place. -/
theorem isRowF_mk {w : World} {x : Addr} {len : Nat} (hl : len ≤ 9223372036854775807) (h : ∀ i, i < len → ∃ q : Int × Int, w.cell? (x.add (i * 2)) = some (.int .i64 q.1) ∧ w.cell? (x.add (i * 2 + 1)) = some (.int .i64 q.2)) : ∃ zs, IsRowF w (some x) len zs := by
  obtain ⟨q, hq⟩ := Go.Deep.choose_lt h
  refine ⟨(List.range len).map q, by simp, hl, ?_⟩
  by_cases h0 : len = 0
  · exact .inl h0
  · obtain ⟨b, off, spot⟩ := x
    have hc0 := (hq 0 (by omega)).1
    have hs : spot = none := by simpa [Addr.add] using World.cell?_spot hc0
    subst hs
    have hb : b < w.heap.size := cell_lt (a := ⟨b, off, none⟩) (by simpa [Addr.add] using hc0)
    refine .inr ⟨b, off, rfl, hb, Lib.hid fun j hj => ?_⟩
    have e : ∀ k, Addr.add ⟨b, off, none⟩ k = ⟨b, off + k, none⟩ := fun k => by cases k <;> simp [Addr.add]
    obtain ⟨h1, h2⟩ := hq j hj
    rw [e] at h1 h2
    have hg : fget ((List.range len).map q) j = q j := by simp [fget, hj]
    rw [hg]
    exact ⟨h1, h2⟩
end Go.Proofs.Ytlohldddioikaaa
