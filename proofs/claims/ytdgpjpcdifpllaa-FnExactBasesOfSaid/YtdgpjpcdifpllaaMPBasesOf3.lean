/-
  The texts M3, M2, N1, Q1, Q2, Q3, Q4, Q6, Q7, BL1, BL2, BL3, BL4, C1 in one.
-/
import Derived.Test.YtdgpjpcdifpllaaMPBasesOf2
import Derived.Deep.SlicePairs
import Derived.Maps.OwnSet
import Derived.Maps.Views
import Derived.DeepKeys5
import Derived.Deep.DeepAppendRoom

/- M3:
  The classes of a part of a list in the model: l02Classes; l02Sheffer. -/
namespace Go.Proofs.Ytdgpjpcdifpllaa
open Go.RowKit

/-- What a valid function is, at numbers told as integers. -/
theorem fokP {p : Int × Int} (h : isF p.1 p.2 = true) : ∃ x R : Nat, p.2 = (x : Int) ∧ R = 2 ^ p.1.toNat ∧ FOk p.1 x R := by
  obtain ⟨x, R, e, ok⟩ := fok h
  exact ⟨x, R, e, ok.he, ok⟩
/-- Whether a function that is told as two integers is in the class k. -/
def clsP (p : Int × Int) (k : Nat) : Bool := clsN p.1.toNat p.2.toNat (2 ^ p.1.toNat) k
theorem l02In_p {p : Int × Int} (h : isF p.1 p.2 = true) (k : Nat) (hk : k ≤ 4) {b : Bool} (hb : clsP p k = b) (w : World) :
    Calls Try.prog 231 #[.agg #[.int .i64 p.1, .int .i64 p.2], .int .i64 (k : Int)] w fun e w' => e = .returned (.bool b) ∧ Below w.heap.size w w' := by
  obtain ⟨x, R, e, he, ok⟩ := fokP h
  rw [e]
  refine l02In_is ok k hk ?_ w
  rw [← hb, clsP, e, he]
  rfl

/-- All functions of a list are functions. -/
def AreF (xs : List (Int × Int)) : Prop := ∀ j, j < xs.length → isF (fget xs j).1 (fget xs j).2 = true

/-- Whether the functions of a part, of those below j, are in the class k. -/
def partTo (xs : List (Int × Int)) (part k j : Nat) : Bool := allLt j fun i => bitN part i == 0 || clsP (fget xs i) k
theorem partTo_succ (xs : List (Int × Int)) (part k j : Nat) : partTo xs part k (j + 1) = (partTo xs part k j && (bitN part j == 0 || clsP (fget xs j) k)) := allLt_succ _ _
def partV (xs : List (Int × Int)) (part k : Nat) : Nat := (partTo xs part k xs.length).toNat
theorem partV_le (xs : List (Int × Int)) (part k : Nat) : partV xs part k ≤ 1 := by unfold partV; cases partTo xs part k xs.length <;> decide
/-- The classes of a part, as a number. -/
def partN (xs : List (Int × Int)) (part : Nat) : Nat := sumN (partV xs part) 5

theorem part_digit (x i : Nat) (hx : x < 2 ^ 62) : ((bits .and .i64 ((x : Int) / 2 ^ i) 1) == 0) = (bitN x i == 0) := by
  rw [digit_eq x i hx, Bool.eq_iff_iff]
  simp

set_option maxRecDepth 100000 in
set_option maxHeartbeats 4000000 in
theorem l02Classes_any {base : Nat} {s : Value} {xs : List (Int × Int)} (hl : xs.length ≤ 1048576) (hx : AreF xs) (part : Nat) (hp : part < 2 ^ 62) (hp2 : xs.length ≤ 61) (w : World) (h : OwnsF w base s xs) :
    Calls Try.prog 176 #[s, .int .i64 (part : Int)] w fun e w' => e = .returned (.int .i64 (partN xs part : Int)) ∧ Below w.heap.size w w' := by
  obtain ⟨a, cap, hs, hrow⟩ : ∃ a cap, s = .slice a xs.length cap ∧ (xs.length = 0 ∨ ∃ g, a = some ⟨g, 0, none⟩ ∧ g < w.heap.size ∧ Hid (∀ j, j < xs.length → w.cell? ⟨g, j * 2, none⟩ = some (.int .i64 (fget xs j).1) ∧ w.cell? ⟨g, j * 2 + 1, none⟩ = some (.int .i64 (fget xs j).2))) := by
    rcases h.shape with ⟨rfl, a, cap, rfl⟩ | ⟨hn, g, cap, rfl, hbg, hg, hc, hf⟩
    · exact ⟨a, cap, rfl, .inl rfl⟩
    · exact ⟨_, cap, rfl, .inr ⟨g, rfl, hg, hc⟩⟩
  subst hs
  clear h
  have HX := Lib.hid hx
  clear hx
  have hlen : xs.length = xs.length := rfl
  clear hlen
  generalize hL : xs.length = L at hl hp2 hrow
  have HL := Lib.hid hL
  clear hL
  have HROW := Lib.hid hrow
  clear hrow
  go_enter Try.func176, Try.ntmps176
  go_wp2
  go_loopw [5, 6] (fun o' k' wr => ∃ k : Nat, k ≤ 5 ∧ k' = .int .i64 k ∧ o' = .int .i64 (sumN (partV xs part) k : Int) ∧ Below w.heap.size w wr)
    (fun _ k' _ => 5 - (intOf k').toNat)
  case atStart => exact ⟨0, by omega, rfl, rfl, Below.refl _ _⟩
  case round =>
    obtain ⟨k, hk, rfl, rfl, hB⟩ := hrel
    obtain ⟨wo, rfl⟩ : ∃ wo : World, wo = wr := ⟨_, rfl⟩
    by_cases hlt : k < 5
    · have hd5 : decide ((k : Int) < 5) = true := by simp; omega
      go_wp2
      clear hd5
      go_loopw [7, 8] (fun a' i' wr => ∃ i : Nat, i ≤ L ∧ i' = .int .i64 i ∧ a' = .bool (partTo xs part k i) ∧ Below w.heap.size w wr)
        (fun _ i' _ => L - (intOf i').toNat)
      case atStart => exact ⟨0, by omega, rfl, rfl, hB⟩
      case round =>
        clear hB
        obtain ⟨i, hi, rfl, rfl, hB⟩ := hrel
        by_cases hlti : i < L
        · obtain ⟨g, rfl, hg, hc⟩ : ∃ g, a = some ⟨g, 0, none⟩ ∧ g < w.heap.size ∧ Hid (∀ j, j < L → w.cell? ⟨g, j * 2, none⟩ = some (.int .i64 (fget xs j).1) ∧ w.cell? ⟨g, j * 2 + 1, none⟩ = some (.int .i64 (fget xs j).2)) := by
            rcases HROW.out with h0 | h1
            · omega
            · exact h1
          obtain ⟨c0, c1⟩ := hc.out i hlti
          have d0 := (hB.cell (p := ⟨g, i * 2, none⟩) hg).trans c0
          have d1 := (hB.cell (p := ⟨g, i * 2 + 1, none⟩) hg).trans c1
          clear c0 c1
          have hs := partTo_succ xs part k i
          have hb := part_digit part i hp
          cases ha : partTo xs part k i
          · rw [ha] at hs
            have HS := Lib.hid hs
            clear hs ha hb
            go_wp2
            go_roundw
            case rel => exact ⟨i + 1, by omega, by go_num, by rw [HS.out]; rfl, hB⟩
            case measure => simp [intOf]; omega
          · rw [ha] at hs
            cases hd : bitN part i == 0
            · rw [hd] at hs hb
              cases hq : clsP (fget xs i) k
              · rw [hq] at hs
                have HS := Lib.hid hs
                have HQ := Lib.hid hq
                have hF := Lib.hid (HX.out i (by have := HL.out; omega))
                clear hs ha hd hq
                go_wp2_with fail
                refine (l02In_p hF.out k (by omega) HQ.out _).mono ?_
                rintro e w2 ⟨rfl, hb2⟩
                go_wp2
                go_roundw
                case rel => exact ⟨i + 1, by omega, by go_num, by rw [HS.out]; rfl, bthen hB hb2⟩
                case measure => simp [intOf]; omega
              · rw [hq] at hs
                have HS := Lib.hid hs
                have HQ := Lib.hid hq
                have hF := Lib.hid (HX.out i (by have := HL.out; omega))
                clear hs ha hd hq
                go_wp2_with fail
                refine (l02In_p hF.out k (by omega) HQ.out _).mono ?_
                rintro e w2 ⟨rfl, hb2⟩
                go_wp2
                go_roundw
                case rel => exact ⟨i + 1, by omega, by go_num, by rw [HS.out]; rfl, bthen hB hb2⟩
                case measure => simp [intOf]; omega
            · rw [hd] at hs hb
              have HS := Lib.hid hs
              clear hs ha hd
              go_wp2
              go_roundw
              case rel => exact ⟨i + 1, by omega, by go_num, by rw [HS.out]; rfl, hB⟩
              case measure => simp [intOf]; omega
        · obtain rfl : i = L := by omega
          cases ha : partTo xs part k i
          · have HS := Lib.hid (show sumN (partV xs part) (k + 1) = sumN (partV xs part) k by simp [sumN, partV, HL.out, ha])
            clear ha
            go_wp2
            go_roundw
            case rel => exact ⟨k + 1, by omega, by go_num, by rw [HS.out], hB⟩
            case measure => simp [intOf]; omega
          · have HS := Lib.hid (set_step (partV xs part) k (by omega) (fun r _ => partV_le _ _ r) (by simp [partV, HL.out, ha]))
            clear ha
            go_wp2
            go_roundw
            case rel => exact ⟨k + 1, by omega, by go_num, by rw [← HS.out], hB⟩
            case measure => simp [intOf]; omega
    · obtain rfl : k = 5 := by omega
      go_wp2
      go_ret
      exact ⟨rfl, hB⟩
end Go.Proofs.Ytdgpjpcdifpllaa

/- M2:
  A list of functions that came in, copied. -/
namespace Go.Proofs.Ytdgpjpcdifpllaa
open Go.RowKit

/-- A slice of structs of two numbers that came in: its numbers are zs. -/
def IsRowF (w : World) (a : Option Addr) (len : Nat) (zs : List (Int × Int)) : Prop :=
  zs.length = len ∧ len ≤ 9223372036854775807 ∧ (len = 0 ∨ ∃ b off, a = some ⟨b, off, none⟩ ∧ b < w.heap.size ∧ Hid (∀ j, j < len → w.cell? ⟨b, off + j * 2, none⟩ = some (.int .i64 (fget zs j).1) ∧ w.cell? ⟨b, off + j * 2 + 1, none⟩ = some (.int .i64 (fget zs j).2)))

/-- A post with 'there is a list of functions'. -/
def FListPost (base : Nat) (xs : List (Int × Int)) (w : World) (e : Ending) (w' : World) : Prop := ∃ s, e = .returned s ∧ OwnsF w' base s xs ∧ Below w.heap.size w w'
def FListCodePost (base : Nat) (xs : List (Int × Int)) (c : Int) (w : World) (e : Ending) (w' : World) : Prop := ∃ s, e = .returned (.tuple #[s, .int .i64 c]) ∧ OwnsF w' base s xs ∧ Below w.heap.size w w'

set_option maxRecDepth 100000 in
set_option maxHeartbeats 2000000 in
theorem toFuncS_any {a : Option Addr} {len cap : Nat} {zs : List (Int × Int)} {w0 : World} (h : IsRowF w0 a len zs) (hl : len ≤ 1048576) (w : World) (hw : Below w0.heap.size w0 w) :
    Calls Try.prog 23 #[.slice a len cap] w (FListPost w.heap.size zs w) := by
  obtain ⟨i0, hi, hz0, hz1, hz2⟩ := info_parts infoF
  obtain ⟨hzl, _, h0 | ⟨b, off, rfl, hb, hc⟩⟩ := h
  · subst h0
    obtain rfl : zs = [] := List.length_eq_zero_iff.1 hzl
    go_enter Try.func23, Try.ntmps23
    go_wp2_with (at_make; refine wpList_make_full _ rfl _ _ 24 rfl w.heap.size 23 i0 (.agg #[.int .i64 0, .int .i64 0]) 2 Try.underlying24 hi hz0 hz1 .i64 .i64 _ _ 0 rfl rfl rfl rfl (by rw [hz2]; decide) (by decide) (Nat.le_refl _) ?_; intro w1 hown1 hgrow1)
    have hB : Below w.heap.size w w1 := (Below.refl _ _).grown hgrow1 (Nat.le_refl _) (fun j e => by cases e)
    generalize (madeCells (Value.agg #[.int .i64 0, .int .i64 0]).cells (0 * 2)).toList = vs at hown1
    obtain rfl : vs = [] := List.length_eq_zero_iff.1 (by simpa using hown1.1)
    have ho := Lib.hid hown1
    clear hown1 hgrow1
    refine wp_loop_rounds 1 ?_
    rw [rounds_succ]
    go_wp2
    go_ret
    refine ⟨.slice (some ⟨w.heap.size, 0, none⟩) 0 0, rfl, ?_, hB⟩
    exact ho.out
  · go_enter Try.func23, Try.ntmps23
    go_wp2_with (at_make; refine wpList_make_full _ rfl _ _ 24 rfl w.heap.size 23 i0 (.agg #[.int .i64 0, .int .i64 0]) 2 Try.underlying24 hi hz0 hz1 .i64 .i64 _ _ len rfl rfl rfl rfl (by rw [hz2]; omega) (by unfold maxLen; omega) (Nat.le_refl _) ?_; intro w1 hown1 hgrow1)
    have hB : Below w.heap.size w w1 := (Below.refl _ _).grown hgrow1 (Nat.le_refl _) (fun j e => by cases e)
    have hvl := hown1.1
    generalize (madeCells (Value.agg #[.int .i64 0, .int .i64 0]).cells (len * 2)).toList = vs at hown1 hvl
    clear hgrow1
    go_loopw [4] (fun i' wr => ∃ i : Nat, i ≤ len ∧ i' = .int .i64 i ∧ wr.ownsRow w.heap.size 23 2 (.slice (some ⟨w.heap.size, 0, none⟩) len len) len (fcells (zs.take i) ++ vs.drop (i * 2)) ∧ Below w.heap.size w wr) (fun i' _ => len - (intOf i').toNat)
    case atStart => exact ⟨0, Nat.zero_le _, rfl, by simpa [fcells] using hown1, hB⟩
    case round =>
      clear hown1 hB
      obtain ⟨i, hi', rfl, ho, hN⟩ := hrel
      by_cases hlt : i < len
      · have hs := hw.size
        obtain ⟨c0, c1⟩ := hc.out i hlt
        have s0 := ((hN.cell (p := ⟨b, off + i * 2, none⟩) (by show b < w.heap.size; omega)).trans (hw.cell (p := ⟨b, off + i * 2, none⟩) hb)).trans c0
        have s1 := ((hN.cell (p := ⟨b, off + i * 2 + 1, none⟩) (by show b < w.heap.size; omega)).trans (hw.cell (p := ⟨b, off + i * 2 + 1, none⟩) hb)).trans c1
        clear c0 c1
        have hHO := Lib.hid ho
        clear ho
        go_wp2_with fail
        refine (toFunc_any (fget zs i).1 (fget zs i).2 _).mono ?_
        rintro e w2 ⟨rfl, hb2⟩
        have hN2 := bthen hN hb2
        have ho : w2.ownsRow w.heap.size 23 2 (.slice (some ⟨w.heap.size, 0, none⟩) len len) len (fcells (zs.take i) ++ vs.drop (i * 2)) := by
          obtain ⟨h1, h2 | ⟨g, cap, cur, e1, e2, e3, r⟩⟩ := hHO.out
          · exact ⟨h1, .inl h2⟩
          · exact ⟨h1, .inr ⟨g, cap, cur, e1, e2, (hb2.block g (Array.getElem?_eq_some_iff.1 e3).1).trans e3, r⟩⟩
        have hlen : (fcells (zs.take i) ++ vs.drop (i * 2)).length = len * 2 := by rw [List.length_append, fcells_length, List.length_take, List.length_drop]; omega
        obtain ⟨u, hu⟩ : ∃ u, w2.cell? ⟨w.heap.size, i * 2, none⟩ = some u := by
          rw [ho.cellAt (i * 2) (by omega)]
          exact ⟨_, List.getElem?_eq_getElem (by omega)⟩
        obtain ⟨u2, hu2⟩ : ∃ u, w2.cell? ⟨w.heap.size, i * 2 + 1, none⟩ = some u := by
          rw [ho.cellAt (i * 2 + 1) (by omega)]
          exact ⟨_, List.getElem?_eq_getElem (by omega)⟩
        have hfz := ho.frozenAt (i * 2)
        have hfz2 := ho.frozenAt (i * 2 + 1)
        obtain ⟨o1, g1⟩ := ho.stored (i * 2) (.int .i64 (fget zs i).1)
        obtain ⟨o2, g2⟩ := o1.stored (i * 2 + 1) (.int .i64 (fget zs i).2)
        rw [fset (zs.take i) vs i (fget zs i) (by rw [List.length_take]; omega) (by omega), ← ftake_snoc zs i (by omega)] at o2
        have HST := Lib.hid o2
        clear o1 o2 g1 g2 ho hvl hlen hHO s0 s1
        go_wp2
        go_roundw
        case rel => exact ⟨i + 1, by omega, by go_num, HST.out, (hN2.setCell (p := ⟨w.heap.size, i * 2, none⟩) (Nat.le_refl _) _).setCell (p := ⟨w.heap.size, i * 2 + 1, none⟩) (Nat.le_refl _) _⟩
        case measure => simp [intOf]; omega
      · obtain rfl : i = len := by omega
        have ho' := Lib.hid ho
        have hd := Lib.hid (List.drop_of_length_le (l := vs) (i := i * 2) (by omega))
        have ht := Lib.hid (List.take_of_length_le (l := zs) (i := i) (by omega))
        have hll := Lib.hid hzl
        clear ho hvl hzl
        go_wp2
        go_ret
        refine ⟨_, rfl, ?_, hN⟩
        unfold OwnsF
        rw [hll.out]
        have := ho'.out
        rw [hd.out, List.append_nil, ht.out] at this
        exact this

/-- From what is told of a slice of structs at each place. -/
theorem isRowF_mk {w : World} {x : Addr} {len : Nat} (hl : len ≤ 9223372036854775807) (h : ∀ i, i < len → ∃ q : Int × Int, w.cell? (x.add (i * 2)) = some (.int .i64 q.1) ∧ w.cell? (x.add (i * 2 + 1)) = some (.int .i64 q.2)) : ∃ zs, IsRowF w (some x) len zs := by
  obtain ⟨q, hq⟩ := Go.Deep.choose_lt h
  refine ⟨(List.range len).map q, by simp, hl, ?_⟩
  by_cases h0 : len = 0
  · exact .inl h0
  · obtain ⟨b, off, spot⟩ := x
    have hc0 := (hq 0 (by omega)).1
    have hs : spot = none := by simpa [Addr.add] using World.cell?_spot hc0
    subst hs
    have hb : b < w.heap.size := cell_lt (a := ⟨b, off, none⟩) (by simpa [Addr.add] using hc0)
    refine .inr ⟨b, off, rfl, hb, Lib.hid fun j hj => ?_⟩
    have e : ∀ k, Addr.add ⟨b, off, none⟩ k = ⟨b, off + k, none⟩ := fun k => by cases k <;> simp [Addr.add]
    obtain ⟨h1, h2⟩ := hq j hj
    rw [e] at h1 h2
    have hg : fget ((List.range len).map q) j = q j := by simp [fget, hj]
    rw [hg]
    exact ⟨h1, h2⟩
end Go.Proofs.Ytdgpjpcdifpllaa

/- N1:
  Lists of functions: are they functions (both packages). -/
namespace Go.Proofs.Ytdgpjpcdifpllaa
open Go.RowKit

/-- The functions below j of a list are functions. -/
def allTo (xs : List (Int × Int)) (j : Nat) : Bool := allLt j fun i => isF (fget xs i).1 (fget xs i).2
theorem allTo_succ (xs : List (Int × Int)) (j : Nat) : allTo xs (j + 1) = (allTo xs j && isF (fget xs j).1 (fget xs j).2) := allLt_succ _ _
theorem allTo_false {xs : List (Int × Int)} {k m : Nat} (hk : k < m) (h : isF (fget xs k).1 (fget xs k).2 = false) : allTo xs m = false := by
  cases hc : allTo xs m
  · rfl
  · have := allLt_iff.1 hc k hk
    rw [h] at this
    cases this
theorem allTo_get {xs : List (Int × Int)} {m : Nat} (h : allTo xs m = true) (k : Nat) (hk : k < m) : isF (fget xs k).1 (fget xs k).2 = true := allLt_iff.1 h k hk

/-- A list's shape, whatever its length. -/
theorem OwnsF.cells {W : World} {base : Nat} {s : Value} {xs : List (Int × Int)} (h : OwnsF W base s xs) :
    ∃ a cap, s = .slice a xs.length cap ∧ (xs.length = 0 ∨ ∃ g, a = some ⟨g, 0, none⟩ ∧ g < W.heap.size ∧ Hid (∀ j, j < xs.length → W.cell? ⟨g, j * 2, none⟩ = some (.int .i64 (fget xs j).1) ∧ W.cell? ⟨g, j * 2 + 1, none⟩ = some (.int .i64 (fget xs j).2))) := by
  rcases h.shape with ⟨rfl, a, cap, rfl⟩ | ⟨hn, g, cap, rfl, hbg, hg, hc, hf⟩
  · exact ⟨a, cap, rfl, .inl rfl⟩
  · exact ⟨_, cap, rfl, .inr ⟨g, rfl, hg, hc⟩⟩

set_option maxRecDepth 100000 in
set_option maxHeartbeats 2000000 in
theorem areFuncs_any {base : Nat} {s : Value} {xs : List (Int × Int)} (hl : xs.length ≤ 1048576) (w : World) (h : OwnsF w base s xs) {b : Bool} (hb : allTo xs xs.length = b) :
    Calls Try.prog 145 #[s] w fun e w' => e = .returned (.bool b) ∧ Below w.heap.size w w' := by
  obtain ⟨a, cap, rfl, hrow⟩ := h.cells
  have HROW := Lib.hid hrow
  have HBB := Lib.hid hb
  clear h hrow hb
  generalize hL : xs.length = L at hl HROW HBB ⊢
  clear hL
  go_enter Try.func145, Try.ntmps145
  go_wp2
  go_loopw [7] (fun i' wr => ∃ i : Nat, i ≤ L ∧ i' = .int .i64 i ∧ Hid (allTo xs i = true) ∧ Below w.heap.size w wr) (fun i' _ => L - (intOf i').toNat)
  case atStart => exact ⟨0, Nat.zero_le _, rfl, Lib.hid rfl, Below.refl _ _⟩
  case round =>
    obtain ⟨i, hi, rfl, hm, hB⟩ := hrel
    by_cases hlt : i < L
    · obtain ⟨g, rfl, hg, hc⟩ : ∃ g, a = some ⟨g, 0, none⟩ ∧ g < w.heap.size ∧ Hid (∀ j, j < L → w.cell? ⟨g, j * 2, none⟩ = some (.int .i64 (fget xs j).1) ∧ w.cell? ⟨g, j * 2 + 1, none⟩ = some (.int .i64 (fget xs j).2)) := by
        rcases HROW.out with h0 | h1
        · omega
        · exact h1
      obtain ⟨c0, c1⟩ := hc.out i hlt
      have d0 := (hB.cell (p := ⟨g, i * 2, none⟩) hg).trans c0
      have d1 := (hB.cell (p := ⟨g, i * 2 + 1, none⟩) hg).trans c1
      clear c0 c1
      cases hf : isF (fget xs i).1 (fget xs i).2
      · obtain rfl : b = false := HBB.out.symm.trans (allTo_false hlt hf)
        go_wp2_with (go_at_call 81; refine (IsFunc_is hf _).mono ?_; rintro e w2 ⟨rfl, hb2⟩)
        go_ret
        exact ⟨rfl, bthen hB (bthen (bnew _ _) hb2)⟩
      · have HM := Lib.hid (show allTo xs (i + 1) = true by rw [allTo_succ, hm.out, hf]; rfl)
        go_wp2_with (go_at_call 81; refine (IsFunc_is hf _).mono ?_; rintro e w2 ⟨rfl, hb2⟩)
        go_roundw
        case rel => exact ⟨i + 1, by omega, by go_num, HM, bthen hB (bthen (bnew _ _) hb2)⟩
        case measure => simp [intOf]; omega
    · obtain rfl : i = L := by omega
      obtain rfl : b = true := HBB.out.symm.trans hm.out
      go_wp2
      go_ret
      exact ⟨rfl, hB⟩

/-- The code of a list. -/
def codeA (b : Bool) : Int := if b then 0 else 1

end Go.Proofs.Ytdgpjpcdifpllaa

/- Q1:
  A map whose keys are functions: what a key reads as; the map of the sets of classes. -/
namespace Go.Proofs.Ytdgpjpcdifpllaa
open Go.RowKit
open Go.Maps (Keyed)

theorem lawF : Keyed Try.prog 23 :=
  Keyed.of_law (deep_law_gate (by kernel_rfl) (of_decide_eq_true (by kernel_rfl)) (of_decide_eq_true (by kernel_rfl)) (by kernel_rfl) (by kernel_rfl))
theorem zeroI (w : World) : (zeroValue 2).run Try.prog w = .ok (.int .i64 0) w := by kernel_rfl

/-- What a function reads as, as a key. -/
def kl (p : Int × Int) : Lit := .string (keyBytes [.int .i64 p.1, .int .i64 p.2])
theorem kl_isKey (p : Int × Int) : WideAt.IsKeyLit (kl p) := trivial

theorem keyF {p : Int × Int} (h1 : (Lit.int .i64 p.1).wf = true) (h2 : (Lit.int .i64 p.2).wf = true) : keyOf Try.prog 23 (.agg #[.int .i64 p.1, .int .i64 p.2]) = some (kl p) := by
  have k1 : Try.prog.keyType 23 = true := by kernel_rfl
  have c1 : Try.prog.cellsOf 23 = 2 := by kernel_rfl
  have c2 : Try.prog.cellsOf 2 = 1 := by kernel_rfl
  have hd : decide (Try.prog.types.size ≠ 0) = true := by kernel_rfl
  obtain ⟨m, hm⟩ : ∃ m, Try.prog.types.size = m + 1 := Nat.exists_eq_succ_of_ne_zero (of_decide_eq_true hd)
  have f1 : (Value.agg #[.int .i64 p.1, .int .i64 p.2]).formed Try.prog 23 = true := by
    simp [Value.formed, Try.underlying23, c1]
  have e1 : Try.prog.keyLits (Try.prog.types.size + 1) 23 [.int .i64 p.1, .int .i64 p.2] = some [.int .i64 p.1, .int .i64 p.2] := by
    rw [hm]
    simp [Program.keyLits, Try.underlying23, Try.underlying2, c1, c2, h1, h2]
  unfold keyOf
  rw [Try.underlying23]
  simp only [k1, f1, Bool.and_self, if_true]
  rw [show (Value.agg #[.int .i64 p.1, .int .i64 p.2]).cells.toList = [.int .i64 p.1, .int .i64 p.2] from rfl, e1]
  rfl
end Go.Proofs.Ytdgpjpcdifpllaa

/- Q2:
  classSetsOf: the map of the sets of classes of a list. -/
namespace Go.Proofs.Ytdgpjpcdifpllaa
open Go.RowKit
open Go.Maps (Keyed)

abbrev DU := DataW Unit
/-- The set of classes of a function that is told as two integers. -/
def setP (p : Int × Int) : Nat := setN p.1.toNat p.2.toNat (2 ^ p.1.toNat)
theorem setP_lt (p : Int × Int) : setP p < 32 := sumN_lt _ 5 (fun r _ => clsV_le _ _ _ r)
def isP (p : Int × Int) : Prop := isF p.1 p.2 = true
theorem isP.wf {p : Int × Int} (h : isP p) : (Lit.int .i64 p.1).wf = true ∧ (Lit.int .i64 p.2).wf = true := by
  obtain ⟨h0, h4, hb, ha⟩ := isF_iff.1 h
  have := allN_bd h0 h4
  exact ⟨WalkArith.wf_i64 (by omega), WalkArith.wf_i64 (by omega)⟩
theorem isP.key {p : Int × Int} (h : isP p) : keyOf Try.prog 23 (.agg #[.int .i64 p.1, .int .i64 p.2]) = some (kl p) := keyF h.wf.1 h.wf.2
theorem kl_ne {p q : Int × Int} (hp : isP p) (hq : isP q) (h : p ≠ q) : kl p ≠ kl q := by
  intro e
  have h1 := hp.key
  have h2 := hq.key
  rw [← e] at h2
  have := lawF.inj h1 h2
  simp at this
  exact h (Prod.ext this.1 this.2)
theorem classSetOf_p {p : Int × Int} (h : isP p) (w : World) :
    Calls Try.prog 177 #[.agg #[.int .i64 p.1, .int .i64 p.2]] w fun e w' => e = .returned (.int .i64 (setP p : Int)) ∧ Below w.heap.size w w' := by
  obtain ⟨x, R, e, he, ok⟩ := fokP h
  have := classSetOf_any ok w
  unfold setP
  rw [e, ← he]
  exact this

/-- The map has the functions below j of the list, and with each function that it has its set of classes. -/
def MapOk (D : DU) (xs : List (Int × Int)) (j : Nat) : Prop :=
  Maps.IsMap D ∧ (∀ i, i < j → Maps.has D (kl (fget xs i)) = true) ∧ ∀ p, isP p → Maps.has D (kl p) = true → ∀ z, D.atKey (kl p) z = .lit (.int .i64 (setP p : Int))
theorem MapOk.zero (xs : List (Int × Int)) : MapOk (.map []) xs 0 := ⟨Maps.isMap_empty, fun i h => by omega, fun p _ h => by simp [Maps.has] at h⟩
theorem MapOk.same {D : DU} {xs : List (Int × Int)} {j : Nat} (h : MapOk D xs j) (hh : Maps.has D (kl (fget xs j)) = true) : MapOk D xs (j + 1) :=
  ⟨h.1, fun i hi => by
    by_cases e : i = j
    · subst e; exact hh
    · exact h.2.1 i (by omega), h.2.2⟩
theorem MapOk.put {D : DU} {xs : List (Int × Int)} {j : Nat} (h : MapOk D xs j) (hx : ∀ i, i < j + 1 → isP (fget xs i)) : MapOk (D.put (kl (fget xs j)) (.lit (.int .i64 (setP (fget xs j) : Int)))) xs (j + 1) := by
  obtain ⟨h1, h2, h3⟩ := h
  have hsame := Maps.has_put_same h1 (kl_isKey (fget xs j)) (.lit (.int .i64 (setP (fget xs j) : Int)))
  refine ⟨h1.put _ _, fun i hi => ?_, fun p hp hh z => ?_⟩
  · by_cases e : fget xs i = fget xs j
    · rw [e]; exact hsame
    · have hij : i ≠ j := fun e2 => e (by rw [e2])
      rw [Maps.has_put_other (kl_ne (hx i hi) (hx j (by omega)) e)]
      exact h2 i (by omega)
  · by_cases e : p = fget xs j
    · rw [e]; exact Maps.atKey_put_same h1 (kl_isKey _) _ _
    · have hne := kl_ne hp (hx j (by omega)) e
      rw [Maps.has_put_other hne] at hh
      rw [Maps.atKey_put_other hne]
      exact h3 p hp hh z
theorem owns_map_below {w w' : World} {b n : Nat} {D : DU} (h : w.ownsMap Try.prog 23 (plainElem Try.prog 2) b n D) (hb : Below w.heap.size w w') : w'.ownsMap Try.prog 23 (plainElem Try.prog 2) b n D := by
  obtain ⟨es, clock, hh, F, hs, hD⟩ := h
  exact ⟨es, clock, (hb.block b (Array.getElem?_eq_some_iff.1 hh).1).trans hh, F, hs, hD⟩

/-- A post with 'there is a map'. -/
def MapPost (xs : List (Int × Int)) (w : World) (e : Ending) (w' : World) : Prop := ∃ (b : Nat) (D : DU), e = .returned (.map (some b)) ∧ w'.ownsMap Try.prog 23 (plainElem Try.prog 2) b xs.length D ∧ MapOk D xs xs.length ∧ Below w.heap.size w w'

set_option maxRecDepth 100000 in
set_option maxHeartbeats 4000000 in
theorem classSetsOf_any {base : Nat} {s : Value} {xs : List (Int × Int)} (hl : xs.length ≤ 1048576) (hx : AreF xs) (w : World) (h : OwnsF w base s xs) :
    Calls Try.prog 131 #[s] w (MapPost xs w) := by
  obtain ⟨a, cap, rfl, hrow⟩ := h.cells
  have HROW := Lib.hid hrow
  have HX := Lib.hid hx
  clear h hrow hx
  generalize hL : xs.length = L at hl HROW
  have HL := Lib.hid hL
  clear hL
  have hmm := @run_makeMap Try.prog
  go_enter Try.func131, Try.ntmps131
  go_wp2
  clear hmm
  go_loopw [11] (fun i' wr => ∃ (i : Nat) (D : DU), i ≤ L ∧ i' = .int .i64 i ∧ wr.ownsMap Try.prog 23 (plainElem Try.prog 2) w.heap.size i D ∧ Hid (MapOk D xs i) ∧ Below w.heap.size w wr) (fun i' _ => L - (intOf i').toNat)
  case atStart => exact ⟨0, _, Nat.zero_le _, rfl, World.ownsMap_made _ _ _ _, Lib.hid (MapOk.zero xs), bnew _ _⟩
  case round =>
    obtain ⟨i, D, hi, rfl, hown, hm, hB⟩ := hrel
    by_cases hlt : i < L
    · obtain ⟨g, rfl, hg, hc⟩ : ∃ g, a = some ⟨g, 0, none⟩ ∧ g < w.heap.size ∧ Hid (∀ j, j < L → w.cell? ⟨g, j * 2, none⟩ = some (.int .i64 (fget xs j).1) ∧ w.cell? ⟨g, j * 2 + 1, none⟩ = some (.int .i64 (fget xs j).2)) := by
        rcases HROW.out with h0 | h1
        · omega
        · exact h1
      obtain ⟨e0, e1⟩ := hc.out i hlt
      have d0 := (hB.cell (p := ⟨g, i * 2, none⟩) hg).trans e0
      have d1 := (hB.cell (p := ⟨g, i * 2 + 1, none⟩) hg).trans e1
      clear e0 e1
      have hall : ∀ j, j < i + 1 → isP (fget xs j) := fun j hj => HX.out j (by have := HL.out; omega)
      have HALL := Lib.hid hall
      have HK := Lib.hid (hall i (by omega))
      clear hall
      obtain ⟨W1, hW1⟩ : ∃ W1, wr.alloc (.cells #[.int .i64 (fget xs i).1, .int .i64 (fget xs i).2] 23) = W1 := ⟨_, rfl⟩
      have p0 : W1.cell? ⟨wr.heap.size, 0, none⟩ = some (.int .i64 (fget xs i).1) := by rw [← hW1]; simp [go_sem]
      have p1 : W1.cell? ⟨wr.heap.size, 1, none⟩ = some (.int .i64 (fget xs i).2) := by rw [← hW1]; simp [go_sem]
      have hB1 : Below wr.heap.size wr W1 := by rw [← hW1]; exact bnew _ _
      have hown1 : W1.ownsMap Try.prog 23 (plainElem Try.prog 2) w.heap.size i D := owns_map_below hown hB1
      clear hown
      cases hh : Maps.has D (kl (fget xs i))
      · go_wp2_with (at_lookup; refine wpList_lookup_own_ok_int _ rfl _ _ 171 rfl 23 2 .i64 lawF Try.underlying171 Try.underlying2 (zeroI _) w.heap.size i D rfl hown1 _ (kl (fget xs i)) rfl HK.out.key ?_; intro c hat hwc; clear hat hwc)
        have HM := Lib.hid (hm.out.put HALL.out)
        have hwf : (Lit.int .i64 (setP (fget xs i) : Int)).wf = true := by
          have := setP_lt (fget xs i)
          exact WalkArith.wf_i64 (by omega)
        have HWF := Lib.hid hwf
        clear hwf hh
        have HO1 := Lib.hid hown1
        clear hown1
        go_region_with (go_at_call 177; refine (classSetOf_p HK.out _).mono ?_; rintro e w' ⟨rfl, hb1⟩; have q0 := kcd hb1 p0; have q1 := kcd hb1 p1; obtain ⟨w2, hrun, hown2, hgrow2⟩ := (owns_map_below HO1.out.drew hb1).update lawF Try.underlying171 (by unfold maxLen; omega) HK.out.key (plainElem_int Try.underlying2 HWF.out))
        all_goals
          have hw1 := (bthen hB hB1).drew
          have hw2 := bthen hw1 hb1
          have hw3 : Below w.heap.size w w2 := hw2.grown hgrow2 hw2.size (fun k e => by cases e; exact Nat.le_refl _)
          have HO2 := Lib.hid hown2
          clear hown2 hgrow2 hrun p0 p1 q0 q1 hw1 hw2
          go_wp2
          go_roundw
          case rel => exact ⟨i + 1, _, by omega, by go_num, HO2.out, HM, hw3⟩
          case measure => simp [intOf]; omega
      · have HM := Lib.hid (hm.out.same hh)
        have HH := Lib.hid hh
        go_wp2_with (at_lookup; refine wpList_lookup_own_ok_int _ rfl _ _ 171 rfl 23 2 .i64 lawF Try.underlying171 Try.underlying2 (zeroI _) w.heap.size i D rfl hown1 _ (kl (fget xs i)) rfl HK.out.key ?_; intro c hat hwc; clear hat hwc)
        go_roundw
        case rel => exact ⟨i + 1, D, by omega, by go_num, hown1.mono (by omega), HM, bthen hB hB1⟩
        case measure => simp [intOf]; omega
    · obtain rfl : i = L := by omega
      have HO := Lib.hid hown
      clear hown
      go_wp2
      go_ret
      exact ⟨_, D, rfl, by rw [HL.out]; exact HO.out, by rw [HL.out]; exact hm.out, hB⟩
end Go.Proofs.Ytdgpjpcdifpllaa

/- Q3:
  commonClasses; the codes of lists; the whole of a list. -/
namespace Go.Proofs.Ytdgpjpcdifpllaa
open Go.RowKit

theorem bits_and_nat (x y : Nat) (hx : x < 2 ^ 62) (hy : y < 2 ^ 62) : bits .and .i64 (x : Int) (y : Int) = ((x &&& y : Nat) : Int) := by
  have h : x &&& y ≤ x := Nat.and_le_left
  have h64 : (2 : Nat) ^ 62 < 2 ^ 64 := by decide
  show IntKind.i64.wrap ((BitVec.ofInt 64 (x : Int) &&& BitVec.ofInt 64 (y : Int)).toNat : Int) = _
  rw [BitVec.ofInt_natCast, BitVec.ofInt_natCast, BitVec.toNat_and, BitVec.toNat_ofNat, BitVec.toNat_ofNat, Nat.mod_eq_of_lt (Nat.lt_trans hx h64), Nat.mod_eq_of_lt (Nat.lt_trans hy h64)]
  exact wrap64_small (by omega) (by omega)
theorem bitN_of_test (x i : Nat) : bitN x i = (x.testBit i).toNat := by
  have := bitN_le x i
  rw [bitN_test]
  cases h : bitN x i == 1
  · simp at h ⊢; omega
  · simp at h ⊢; omega
theorem bitN_and (x y i : Nat) : bitN (x &&& y) i = bitN x i * bitN y i := by
  rw [bitN_of_test, bitN_of_test, bitN_of_test, Nat.testBit_and]
  cases x.testBit i <;> cases y.testBit i <;> rfl

/-- The classes that the functions below j have in common. -/
def comTo (xs : List (Int × Int)) : Nat → Nat
  | 0 => 31
  | j + 1 => comTo xs j &&& setP (fget xs j)
theorem comTo_lt (xs : List (Int × Int)) (j : Nat) : comTo xs j < 32 := by
  induction j with
  | zero => show 31 < 32; decide
  | succ j ih => exact Nat.lt_of_le_of_lt Nat.and_le_left ih
/-- All functions of a list are in the class k. -/
def allCls (xs : List (Int × Int)) (k j : Nat) : Bool := allLt j fun i => clsP (fget xs i) k
theorem allCls_succ (xs : List (Int × Int)) (k j : Nat) : allCls xs k (j + 1) = (allCls xs k j && clsP (fget xs j) k) := allLt_succ _ _
theorem setP_digit (p : Int × Int) (k : Nat) (hk : k < 5) : bitN (setP p) k = (clsP p k).toNat := bitN_sum _ 5 (fun r _ => clsV_le _ _ _ r) k hk
theorem comTo_digit (xs : List (Int × Int)) (k : Nat) (hk : k < 5) (j : Nat) : bitN (comTo xs j) k = (allCls xs k j).toNat := by
  induction j with
  | zero =>
    have : ∀ k < 5, bitN 31 k = 1 := by decide
    exact this k hk
  | succ j ih =>
    rw [comTo, bitN_and, ih, setP_digit _ k hk, allCls_succ]
    cases allCls xs k j <;> cases clsP (fget xs j) k <;> rfl

def wholeN (L : Nat) : Nat := 2 ^ L - 1
theorem whole_digit : ∀ L < 9, ∀ i < L, bitN (wholeN L) i = 1 := by decide +kernel
theorem partTo_whole (xs : List (Int × Int)) (k : Nat) (h8 : xs.length ≤ 8) (j : Nat) (hj : j ≤ xs.length) : partTo xs (wholeN xs.length) k j = allCls xs k j := by
  induction j with
  | zero => rfl
  | succ j ih =>
    rw [partTo_succ, allCls_succ, ih (by omega)]
    have h1 := whole_digit xs.length (by omega) j (by omega)
    simp [h1]
theorem part_whole (xs : List (Int × Int)) (h8 : xs.length ≤ 8) : partN xs (wholeN xs.length) = comTo xs xs.length := by
  rw [partN, sum_is _ 5 _ (fun r _ => partV_le _ _ r) (comTo_lt xs _)]
  intro r hr
  rw [comTo_digit xs r hr, partV, partTo_whole xs r h8 _ (Nat.le_refl _)]

set_option maxRecDepth 100000 in
set_option maxHeartbeats 2000000 in
theorem commonClasses_any {base : Nat} {s : Value} {xs : List (Int × Int)} (hl : xs.length ≤ 1048576) (b n j : Nat) (D : DU) (ys : List (Int × Int)) (w : World) (h : OwnsF w base s xs)
    (hown : w.ownsMap Try.prog 23 (plainElem Try.prog 2) b n D) (hD : MapOk D ys j) (hx : ∀ i, i < xs.length → isP (fget xs i) ∧ Maps.has D (kl (fget xs i)) = true) :
    Calls Try.prog 234 #[.map (some b), s] w fun e w' => e = .returned (.int .i64 (comTo xs xs.length : Int)) ∧ Below w.heap.size w w' := by
  obtain ⟨a, cap, rfl, hrow⟩ := h.cells
  have HROW := Lib.hid hrow
  have HX := Lib.hid hx
  have HD := Lib.hid hD
  have HO := Lib.hid hown
  clear h hrow hx hD hown
  generalize xs.length = L at hl HROW HX ⊢
  go_enter Try.func234, Try.ntmps234
  go_wp2
  go_loopw [5, 10] (fun c' i' wr => ∃ i : Nat, i ≤ L ∧ i' = .int .i64 i ∧ c' = .int .i64 (comTo xs i : Int) ∧ Below w.heap.size w wr) (fun _ i' _ => L - (intOf i').toNat)
  case atStart => exact ⟨0, Nat.zero_le _, rfl, rfl, Below.refl _ _⟩
  case round =>
    obtain ⟨i, hi, rfl, rfl, hB⟩ := hrel
    by_cases hlt : i < L
    · obtain ⟨g, rfl, hg, hc⟩ : ∃ g, a = some ⟨g, 0, none⟩ ∧ g < w.heap.size ∧ Hid (∀ j, j < L → w.cell? ⟨g, j * 2, none⟩ = some (.int .i64 (fget xs j).1) ∧ w.cell? ⟨g, j * 2 + 1, none⟩ = some (.int .i64 (fget xs j).2)) := by
        rcases HROW.out with h0 | h1
        · omega
        · exact h1
      obtain ⟨e0, e1⟩ := hc.out i hlt
      have d0 := (hB.cell (p := ⟨g, i * 2, none⟩) hg).trans e0
      have d1 := (hB.cell (p := ⟨g, i * 2 + 1, none⟩) hg).trans e1
      clear e0 e1
      have hlc := comTo_lt xs i
      have hls := setP_lt (fget xs i)
      have HA := Lib.hid (bits_and_nat (comTo xs i) (setP (fget xs i)) (by omega) (by omega))
      obtain ⟨hp, hh⟩ := HX.out i hlt
      have HK := Lib.hid hp
      have hown1 := (owns_map_below HO.out hB).alloc (.cells #[.int .i64 (fget xs i).1, .int .i64 (fget xs i).2] 23)
      have HAT := Lib.hid (HD.out.2.2 _ hp hh (.lit (.int .i64 0)))
      clear hp hh
      go_wp2_with (at_lookup; refine wpList_lookup_own_int _ rfl _ _ 171 rfl 23 2 .i64 lawF Try.underlying171 Try.underlying2 (zeroI _) b n D rfl hown1 _ (kl (fget xs i)) rfl HK.out.key ?_; intro c hat hwc; rw [HAT.out] at hat; obtain rfl : (setP (fget xs i) : Int) = c := by simpa using hat)
      rw [HA.out]
      go_wp2
      go_roundw
      case rel => exact ⟨i + 1, by omega, by go_num, rfl, balloc hB _⟩
      case measure => simp [intOf]; omega
    · obtain rfl : i = L := by omega
      go_wp2
      go_ret
      exact ⟨rfl, hB⟩

/-- The code of a list of functions. -/
def codeL (xs : List (Int × Int)) : Int := if allTo xs xs.length then (if 8 < xs.length then 2 else 0) else 1

set_option maxRecDepth 100000 in
set_option maxHeartbeats 1000000 in
theorem listCode_any {base : Nat} {s : Value} {xs : List (Int × Int)} (hl : xs.length ≤ 1048576) (w : World) (h : OwnsF w base s xs) {c : Int} (hc : codeL xs = c) :
    Calls Try.prog 82 #[s] w fun e w' => e = .returned (.int .i64 c) ∧ Below w.heap.size w w' := by
  subst hc
  unfold codeL
  have AF := Lib.hid (fun b => areFuncs_any (b := b) hl w h)
  obtain ⟨a, cap, rfl, _⟩ := h.cells
  clear h
  cases hA : allTo xs xs.length
  · have HA := Lib.hid hA
    clear hA
    rw [if_neg (by decide)]
    generalize xs.length = L at *
    go_enter Try.func82, Try.ntmps82
    go_wp2_with (go_at_call 145; refine (AF.out _ HA.out).mono ?_; rintro e w2 ⟨rfl, hb2⟩)
    go_ret
    exact ⟨rfl, hb2⟩
  · have HA := Lib.hid hA
    clear hA
    rw [if_pos rfl]
    by_cases h8 : 8 < xs.length
    · rw [if_pos h8]
      have hd : decide ((8 : Int) < (xs.length : Int)) = true := by simp; omega
      go_enter Try.func82, Try.ntmps82
      go_wp2_with (go_at_call 145; refine (AF.out _ HA.out).mono ?_; rintro e w2 ⟨rfl, hb2⟩)
      go_ret
      exact ⟨rfl, hb2⟩
    · rw [if_neg h8]
      have hd : decide ((8 : Int) < (xs.length : Int)) = false := by simp; omega
      go_enter Try.func82, Try.ntmps82
      go_wp2_with (go_at_call 145; refine (AF.out _ HA.out).mono ?_; rintro e w2 ⟨rfl, hb2⟩)
      go_ret
      exact ⟨rfl, hb2⟩

set_option maxRecDepth 100000 in
set_option maxHeartbeats 2000000 in
theorem l02Code_any {base : Nat} {s : Value} {xs : List (Int × Int)} (hl : xs.length ≤ 1048576) (w : World) (h : OwnsF w base s xs) {c : Int} (hcd : codeL xs = c) :
    Calls Try.prog 78 #[s] w fun e w' => e = .returned (.int .i64 c) ∧ Below w.heap.size w w' := by
  subst hcd
  unfold codeL
  obtain ⟨a, cap, rfl, hrow⟩ := h.cells
  have HROW := Lib.hid hrow
  clear h hrow
  generalize hL : xs.length = L at hl HROW ⊢
  clear hL
  generalize hA : allTo xs L = A
  have HBB := Lib.hid hA
  clear hA
  go_enter Try.func78, Try.ntmps78
  go_wp2
  go_loopw [3] (fun i' wr => ∃ i : Nat, i ≤ L ∧ i' = .int .i64 i ∧ Hid (allTo xs i = true) ∧ Below w.heap.size w wr) (fun i' _ => L - (intOf i').toNat)
  case atStart => exact ⟨0, Nat.zero_le _, rfl, Lib.hid rfl, Below.refl _ _⟩
  case round =>
    obtain ⟨i, hi, rfl, hm, hB⟩ := hrel
    by_cases hlt : i < L
    · obtain ⟨g, rfl, hg, hc⟩ : ∃ g, a = some ⟨g, 0, none⟩ ∧ g < w.heap.size ∧ Hid (∀ j, j < L → w.cell? ⟨g, j * 2, none⟩ = some (.int .i64 (fget xs j).1) ∧ w.cell? ⟨g, j * 2 + 1, none⟩ = some (.int .i64 (fget xs j).2)) := by
        rcases HROW.out with h0 | h1
        · omega
        · exact h1
      obtain ⟨c0, c1⟩ := hc.out i hlt
      have d0 := (hB.cell (p := ⟨g, i * 2, none⟩) hg).trans c0
      have d1 := (hB.cell (p := ⟨g, i * 2 + 1, none⟩) hg).trans c1
      clear c0 c1
      cases hf : isF (fget xs i).1 (fget xs i).2
      · obtain rfl : A = false := HBB.out.symm.trans (allTo_false hlt hf)
        go_wp2_with (go_at_call 77; refine (l01Is_is hf _).mono ?_; rintro e w2 ⟨rfl, hb2⟩)
        go_ret
        exact ⟨rfl, bthen hB hb2⟩
      · have HM := Lib.hid (show allTo xs (i + 1) = true by rw [allTo_succ, hm.out, hf]; rfl)
        go_wp2_with (go_at_call 77; refine (l01Is_is hf _).mono ?_; rintro e w2 ⟨rfl, hb2⟩)
        go_roundw
        case rel => exact ⟨i + 1, by omega, by go_num, HM, bthen hB hb2⟩
        case measure => simp [intOf]; omega
    · obtain rfl : i = L := by omega
      obtain rfl : A = true := HBB.out.symm.trans hm.out
      by_cases h8 : 8 < i
      · have hd : decide ((8 : Int) < (i : Int)) = true := by simp; omega
        go_wp2
        go_ret
        exact ⟨rfl, hB⟩
      · have hd : decide ((8 : Int) < (i : Int)) = false := by simp; omega
        go_wp2
        go_ret
        exact ⟨rfl, hB⟩

theorem whole_int : ∀ L < 9, wrap64 (2 ^ L) = ((2 ^ L : Nat) : Int) ∧ ((2 ^ L : Nat) : Int) - 1 = (wholeN L : Int) ∧ wholeN L < 2 ^ 62 := by decide +kernel

end Go.Proofs.Ytdgpjpcdifpllaa

/- Q4:
  ClassesOf and IsComplete in both packages. -/
namespace Go.Proofs.Ytdgpjpcdifpllaa
open Go.RowKit

/-- The classes below k in which a list is. -/
def clsL (xs : List (Int × Int)) (k : Nat) : List Int := ((List.range k).filter fun j => bitN (comTo xs xs.length) j == 1).map fun (j : Nat) => (j : Int)
theorem clsL_yes (xs : List (Int × Int)) (k : Nat) (h : (bitN (comTo xs xs.length) k == 1) = true) : clsL xs (k + 1) = clsL xs k ++ [(k : Int)] := by simp only [clsL, List.range_succ, List.filter_append, List.map_append]; simp [h]
theorem clsL_no (xs : List (Int × Int)) (k : Nat) (h : (bitN (comTo xs xs.length) k == 1) = false) : clsL xs (k + 1) = clsL xs k := by simp only [clsL, List.range_succ, List.filter_append, List.map_append]; simp [h]
theorem clsL_len (xs : List (Int × Int)) (k : Nat) : (clsL xs k).length ≤ k := by
  unfold clsL
  rw [List.length_map]
  exact Nat.le_trans (List.length_filter_le _ _) (by simp)

theorem codeL_ok {xs : List (Int × Int)} (h : codeL xs = 0) : AreF xs ∧ xs.length ≤ 8 := by
  unfold codeL at h
  cases hA : allTo xs xs.length
  · rw [hA] at h; cases h
  · rw [hA, if_pos rfl] at h
    refine ⟨fun j hj => allTo_get hA j hj, ?_⟩
    apply Decidable.byContradiction
    intro h8
    rw [if_pos (by omega)] at h
    cases h
theorem codeL_ne {xs : List (Int × Int)} (h : codeL xs ≠ 0) : (codeL xs != 0) = true := by simpa using h

/-- What commonClasses answers behind classSetsOf of the same list. -/
theorem common_of {xs : List (Int × Int)} (hl : xs.length ≤ 1048576) (hx : AreF xs) {b : Nat} {D : DU} {base : Nat} {s : Value} (w : World) (h : OwnsF w base s xs) (hown : w.ownsMap Try.prog 23 (plainElem Try.prog 2) b xs.length D) (hD : MapOk D xs xs.length) :
    Calls Try.prog 234 #[.map (some b), s] w fun e w' => e = .returned (.int .i64 (comTo xs xs.length : Int)) ∧ Below w.heap.size w w' :=
  commonClasses_any hl b _ _ D xs w h hown hD (fun i hi => ⟨hx i hi, hD.2.1 i hi⟩)

theorem l02Classes_whole {base : Nat} {s : Value} {xs : List (Int × Int)} (hl : xs.length ≤ 1048576) (hx : AreF xs) (h8 : xs.length ≤ 8) (w : World) (h : OwnsF w base s xs) :
    Calls Try.prog 176 #[s, .int .i64 (wholeN xs.length : Int)] w fun e w' => e = .returned (.int .i64 (comTo xs xs.length : Int)) ∧ Below w.heap.size w w' := by
  have := l02Classes_any hl hx (wholeN xs.length) (whole_int _ (by omega)).2.2 (by omega) w h
  rwa [part_whole xs h8] at this

set_option maxRecDepth 100000 in
set_option maxHeartbeats 1000000 in
theorem isComplete_any {base : Nat} {s : Value} {xs : List (Int × Int)} (b : Nat) (w : World) {c : Nat} (h : Calls Try.prog 234 #[.map (some b), s] w fun e w' => e = .returned (.int .i64 (c : Int)) ∧ Below w.heap.size w w') (hs : OwnsF w base s xs) :
    Calls Try.prog 180 #[.map (some b), s] w fun e w' => e = .returned (.bool ((c : Int) == 0)) ∧ Below w.heap.size w w' := by
  have LC := Lib.hid h
  obtain ⟨a, cap, rfl, _⟩ := hs.cells
  clear h hs
  go_enter Try.func180, Try.ntmps180
  go_wp2_with (go_at_call 234; refine (LC.out).mono ?_; rintro e w2 ⟨rfl, hb2⟩)
  go_ret
  exact ⟨rfl, hb2⟩

end Go.Proofs.Ytdgpjpcdifpllaa

/- Q6:
  l02Base of the model. -/
namespace Go.Proofs.Ytdgpjpcdifpllaa
open Go.RowKit
open Go.Maps (Keyed)
set_option linter.unusedVariables false
set_option linter.unusedSimpArgs false

/-- All places but one. -/
def restN (L i : Nat) : Nat := wholeN L - 2 ^ i
theorem rest_facts : ∀ L < 9, ∀ i < L, wrap64 (2 ^ i) = (2 : Int) ^ i ∧ (bits .and .i64 (wholeN L : Int) ((2 : Int) ^ i) != 0) = true ∧ wrap64 ((wholeN L : Int) - (2 : Int) ^ i) = (restN L i : Int) ∧ restN L i < 2 ^ 62 := by decide +kernel

/-- No place below j can be left out. -/
def needTo (xs : List (Int × Int)) (j : Nat) : Bool := allLt j fun i => !((partN xs (restN xs.length i) : Int) == 0)
theorem needTo_succ (xs : List (Int × Int)) (j : Nat) : needTo xs (j + 1) = (needTo xs j && !((partN xs (restN xs.length j) : Int) == 0)) := allLt_succ _ _
theorem needTo_false {xs : List (Int × Int)} {k m : Nat} (hk : k < m) (h : ((partN xs (restN xs.length k) : Int) == 0) = true) : needTo xs m = false := by
  induction m with
  | zero => omega
  | succ m ih =>
    rw [needTo_succ]
    by_cases e : k = m
    · subst e; simp [h]
    · rw [ih (by omega)]; rfl

set_option maxRecDepth 100000 in
set_option maxHeartbeats 2000000 in
theorem l02Base_any {base : Nat} {s : Value} {xs : List (Int × Int)} (hx : AreF xs) (h8 : xs.length ≤ 8) (w : World) (h : OwnsF w base s xs) {b : Bool} (hb : ((comTo xs xs.length : Int) == 0 && needTo xs xs.length) = b) :
    Calls Try.prog 130 #[s, .int .i64 (wholeN xs.length : Int)] w fun e w' => e = .returned (.bool b) ∧ Below w.heap.size w w' := by
  have hl : xs.length ≤ 1048576 := by omega
  have HX := Lib.hid hx
  have HS := Lib.hid h
  have HB := Lib.hid hb
  obtain ⟨a, cap, rfl, _⟩ := h.cells
  clear h hx hb
  cases hc : ((comTo xs xs.length : Int) == 0)
  · have hne : ((comTo xs xs.length : Int) != 0) = true := by simpa using hc
    rw [hc] at HB
    obtain rfl : b = false := HB.out.symm
    go_enter Try.func130, Try.ntmps130
    go_wp2_with (go_at_call 176; refine (l02Classes_whole hl HX.out h8 _ HS.out).mono ?_; rintro e w2 ⟨rfl, hb2⟩)
    go_ret
    exact ⟨rfl, hb2⟩
  · have hne : ((comTo xs xs.length : Int) != 0) = false := by simpa using hc
    rw [hc, Bool.true_and] at HB
    go_enter Try.func130, Try.ntmps130
    go_wp2_with (go_at_call 176; refine (l02Classes_whole hl HX.out h8 _ HS.out).mono ?_; rintro e w2 ⟨rfl, hb2⟩; replace HS := Lib.hid (HS.out.below hb2))
    go_loopw [5] (fun i' wr => ∃ i : Nat, i ≤ xs.length ∧ i' = .int .i64 i ∧ needTo xs i = true ∧ Below w2.heap.size w2 wr) (fun i' _ => xs.length - (intOf i').toNat)
    case atStart => exact ⟨0, Nat.zero_le _, rfl, rfl, Below.refl _ _⟩
    case round =>
      obtain ⟨i, hi, rfl, hnd, hN⟩ := hrel
      by_cases hlt : i < xs.length
      · obtain ⟨f1, f2, f3, f4⟩ := rest_facts xs.length (by omega) i hlt
        have LC := Lib.hid (l02Classes_any hl HX.out (restN xs.length i) f4 (by omega) wr (HS.out.below hN))
        clear f4
        cases hz : ((partN xs (restN xs.length i) : Int) == 0)
        · have hnd2 := needTo_succ xs i
          rw [hnd, hz] at hnd2
          have HND := Lib.hid hnd2
          clear hnd2 hnd
          go_wp2_with (go_at_call 176; refine (LC.out).mono ?_; rintro e w3 ⟨rfl, hb3⟩)
          go_roundw
          case rel => exact ⟨i + 1, by omega, by go_num, HND.out, bthen hN hb3⟩
          case measure => simp [intOf]; omega
        · have hf := needTo_false hlt hz
          have HF := Lib.hid hf
          clear hf hnd
          go_wp2_with (go_at_call 176; refine (LC.out).mono ?_; rintro e w3 ⟨rfl, hb3⟩)
          go_ret
          exact ⟨by rw [← HB.out, HF.out]; rfl, bthen hb2 (bthen hN hb3)⟩
      · obtain rfl : i = xs.length := by omega
        go_wp2
        go_ret
        exact ⟨by rw [← HB.out, hnd]; rfl, bthen hb2 hN⟩
end Go.Proofs.Ytdgpjpcdifpllaa

/- Q7:
  IsBase: the model's side, the refusals of both, and what a list without one place has in common. -/
namespace Go.Proofs.Ytdgpjpcdifpllaa
open Go.RowKit
open Go.Maps (Keyed)
set_option linter.unusedVariables false
set_option linter.unusedSimpArgs false

theorem rest_digit : ∀ L < 9, ∀ i < L, ∀ j < L, bitN (restN L i) j = if j = i then 0 else 1 := by decide +kernel
theorem fget_erase (xs : List (Int × Int)) (i j : Nat) : fget (xs.eraseIdx i) j = if j < i then fget xs j else fget xs (j + 1) := by
  unfold fget
  rw [List.getElem?_eraseIdx]
  split <;> rfl
theorem part_rest (xs : List (Int × Int)) (h8 : xs.length ≤ 8) (i : Nat) (hi : i < xs.length) : partN xs (restN xs.length i) = comTo (xs.eraseIdx i) (xs.length - 1) := by
  rw [partN, sum_is _ 5 _ (fun r _ => partV_le _ _ r) (comTo_lt _ _)]
  intro r hr
  rw [comTo_digit _ r hr, partV]
  congr 1
  rw [Bool.eq_iff_iff, partTo, allCls, allLt_iff, allLt_iff]
  constructor
  · intro h j hj
    have h1 := h j (by omega)
    have h2 := h (j + 1) (by omega)
    rw [rest_digit xs.length (by omega) i hi j (by omega)] at h1
    rw [rest_digit xs.length (by omega) i hi (j + 1) (by omega)] at h2
    rw [fget_erase]
    by_cases hji : j < i
    · rw [if_neg (by omega)] at h1
      rw [if_pos hji]
      simpa using h1
    · rw [if_neg (by omega)] at h2
      rw [if_neg hji]
      simpa using h2
  · intro h j hj
    rw [rest_digit xs.length (by omega) i hi j hj]
    by_cases hji : j = i
    · simp [hji]
    · rw [if_neg hji]
      by_cases hlt : j < i
      · have := h j (by omega)
        rw [fget_erase, if_pos hlt] at this
        simp [this]
      · have := h (j - 1) (by omega)
        rw [fget_erase, if_neg (by omega), show j - 1 + 1 = j by omega] at this
        simp [this]

/-- A base, by the lists without one place. -/
def isBaseB (xs : List (Int × Int)) : Bool := (comTo xs xs.length : Int) == 0 && allLt xs.length fun i => !((comTo (xs.eraseIdx i) (xs.length - 1) : Int) == 0)
theorem isBaseB_eq (xs : List (Int × Int)) (h8 : xs.length ≤ 8) : ((comTo xs xs.length : Int) == 0 && needTo xs xs.length) = isBaseB xs := by
  unfold isBaseB needTo
  congr 1
  rw [Bool.eq_iff_iff, allLt_iff, allLt_iff]
  constructor
  · intro h i hi
    rw [← part_rest xs h8 i hi]
    exact h i hi
  · intro h i hi
    rw [part_rest xs h8 i hi]
    exact h i hi

end Go.Proofs.Ytdgpjpcdifpllaa

/- BL1:
  BasesOf: lists of lists of numbers in memory; the parts of a list by the model (l02Parts). -/
namespace Go.Proofs.Ytdgpjpcdifpllaa
open Go.RowKit
set_option linter.unusedVariables false
set_option linter.unusedSimpArgs false

/-- The parts with k places, none before i, of n places. -/
def partsN (n : Nat) : Nat → Nat → List (List Int)
  | 0, _ => [[]]
  | k + 1, i => (List.range' i (n - i)).flatMap fun (j : Nat) => (partsN n k (j + 1)).map fun r => (j : Int) :: r
/-- .. of which the first place lies before j. -/
def partsTo (n k i j : Nat) : List (List Int) := (List.range' i (j - i)).flatMap fun (t : Nat) => (partsN n k (t + 1)).map fun r => (t : Int) :: r
theorem partsTo_first (n k i : Nat) : partsTo n k i i = [] := by simp [partsTo]
theorem partsTo_succ {n k i j : Nat} (h : i ≤ j) : partsTo n k i (j + 1) = partsTo n k i j ++ (partsN n k (j + 1)).map fun r => (j : Int) :: r := by
  unfold partsTo
  rw [show j + 1 - i = (j - i) + 1 by omega, List.range'_concat, List.flatMap_append]
  simp [show i + (j - i) = j by omega]
theorem partsTo_last {n k i j : Nat} (h : j = n ∨ (j = i ∧ n ≤ i)) : partsTo n k i j = partsN n (k + 1) i := by
  rcases h with rfl | ⟨rfl, h⟩
  · rfl
  · have e1 : j - j = 0 := by omega
    have e2 : n - j = 0 := by omega
    show (List.range' j (j - j)).flatMap _ = (List.range' j (n - j)).flatMap _
    rw [e1, e2]
theorem range'_pow : ∀ (m i n : Nat), i + m ≤ n → ((List.range' i m).map fun (t : Nat) => 2 ^ (n - (t + 1))).sum + 2 ^ (n - (i + m)) ≤ 2 ^ (n - i)
  | 0, i, n, h => by simp
  | m + 1, i, n, h => by
    have := range'_pow m (i + 1) n (by omega)
    rw [List.range'_succ, List.map_cons, List.sum_cons]
    rw [show i + 1 + m = i + (m + 1) by omega] at this
    have e : (2 : Nat) ^ (n - i) = 2 ^ (n - (i + 1)) + 2 ^ (n - (i + 1)) := by
      rw [show n - i = (n - (i + 1)) + 1 by omega, Nat.pow_succ]; omega
    omega
theorem flatMap_len {α β : Type} (l : List α) (f : α → List β) (g : α → Nat) (h : ∀ x ∈ l, (f x).length ≤ g x) : (l.flatMap f).length ≤ (l.map g).sum := by
  induction l with
  | nil => simp
  | cons a l ih =>
    rw [List.flatMap_cons, List.length_append, List.map_cons, List.sum_cons]
    have h1 := h a (by simp)
    have h2 := ih fun x hx => h x (List.mem_cons_of_mem _ hx)
    omega
theorem partsN_len (n : Nat) : ∀ k i, (partsN n k i).length ≤ 2 ^ (n - i)
  | 0, i => by simp [partsN]; exact Nat.one_le_two_pow
  | k + 1, i => by
    unfold partsN
    by_cases h : i ≤ n
    · have h1 := flatMap_len (List.range' i (n - i)) (fun (j : Nat) => (partsN n k (j + 1)).map fun r => (j : Int) :: r) (fun t => 2 ^ (n - (t + 1))) (fun x _ => by simpa using partsN_len n k (x + 1))
      exact Nat.le_trans h1 (Nat.le_trans (Nat.le_add_right _ _) (range'_pow (n - i) i n (by omega)))
    · rw [show n - i = 0 by omega]; simp
theorem partsN_row (n : Nat) : ∀ k i, ∀ r ∈ partsN n k i, r.length = k
  | 0, i => by simp [partsN]
  | k + 1, i => by
    intro r hr
    unfold partsN at hr
    obtain ⟨j, _, hr⟩ := List.mem_flatMap.1 hr
    obtain ⟨q, hq, rfl⟩ := List.mem_map.1 hr
    simp [partsN_row n k (j + 1) q hq]

/-- A list of lists in memory, every one of them laid in a block of its own, of the call's own (from block base on). -/
structure LL (W : World) (base g cap : Nat) (vs : List Value) (L : List (List Int)) : Prop where
  own : W.ownsRow base 55 1 (.slice (some ⟨g, 0, none⟩) L.length cap) L.length vs
  row : ∀ k (h : k < L.length), ∃ b c, vs[k]? = some (.slice (some ⟨b, 0, none⟩) (L[k]).length c) ∧ Owns W base (.slice (some ⟨b, 0, none⟩) (L[k]).length c) L[k]
theorem LL.gobj {W : World} {base g cap : Nat} {vs : List Value} {L : List (List Int)} (h : LL W base g cap vs L) : base ≤ g ∧ ∃ cur, W.heap[g]? = some (.cells cur 55 (0, 0)) := by
  obtain ⟨_, h0 | ⟨g', cap', cur, e, hb, hg, _⟩⟩ := h.own
  · simp at h0
  · simp only [Value.slice.injEq, Option.some.injEq, Addr.mk.injEq, and_true, true_and] at e
    obtain ⟨rfl, rfl⟩ := e
    exact ⟨hb, cur, hg⟩
theorem owns_obj {W : World} {base b m c : Nat} {xs : List Int} (h : Owns W base (.slice (some ⟨b, 0, none⟩) m c) xs) : base ≤ b ∧ ∃ cur, W.heap[b]? = some (.cells cur 2 (0, 0)) := by
  obtain ⟨_, h0 | ⟨g', cap', cur, e, hb, hg, _⟩⟩ := h
  · simp at h0
  · simp only [Value.slice.injEq, Option.some.injEq, Addr.mk.injEq, and_true, true_and] at e
    obtain ⟨rfl, _, rfl⟩ := e
    exact ⟨hb, cur, hg⟩
theorem LL.lt {W : World} {base g cap : Nat} {vs : List Value} {L : List (List Int)} (h : LL W base g cap vs L) : g < W.heap.size := by
  obtain ⟨_, cur, e⟩ := h.gobj
  exact (Array.getElem?_eq_some_iff.1 e).1
theorem LL.below {W W' : World} {base g cap : Nat} {vs : List Value} {L : List (List Int)} (h : LL W base g cap vs L) (hb : Below W.heap.size W W') : LL W' base g cap vs L := by
  refine ⟨?_, fun k hk => ?_⟩
  · obtain ⟨h1, h2 | ⟨g, cap, cur, e1, e2, e3, r⟩⟩ := h.own
    · exact ⟨h1, .inl h2⟩
    · exact ⟨h1, .inr ⟨g, cap, cur, e1, e2, (hb.block g (Array.getElem?_eq_some_iff.1 e3).1).trans e3, r⟩⟩
  · obtain ⟨b, c, e, ho⟩ := h.row k hk
    exact ⟨b, c, e, ho.below hb⟩
/-- The rows lie in other blocks than any list of lists. -/
theorem owns_keep {W W' : World} {b1 b m c g : Nat} {xs : List Int} {cur : Array Value} (h : Owns W b1 (.slice (some ⟨b, 0, none⟩) m c) xs) (hg : W.heap[g]? = some (.cells cur 55 (0, 0))) (gr : W.grownBy W' (some g)) : Owns W' b1 (.slice (some ⟨b, 0, none⟩) m c) xs := by
  refine World.ownsRow.kept h gr (.inr ?_)
  intro e
  simp only [Value.ownBlock, Option.some.injEq] at e
  subst e
  obtain ⟨_, cur', e2⟩ := owns_obj h
  rw [hg] at e2
  simp at e2
theorem LL.other {W W' : World} {b1 g1 c1 g : Nat} {vs1 : List Value} {L1 : List (List Int)} {cur : Array Value} (h1 : LL W b1 g1 c1 vs1 L1) (hg : W.heap[g]? = some (.cells cur 55 (0, 0))) (hne : ¬ g = g1) (gr : W.grownBy W' (some g)) : LL W' b1 g1 c1 vs1 L1 := by
  refine ⟨World.ownsRow.kept h1.own gr (.inr fun e => ?_), fun k hk => ?_⟩
  · simp only [Value.ownBlock, Option.some.injEq] at e
    exact hne e.symm
  · obtain ⟨b, c, e, ho⟩ := h1.row k hk
    exact ⟨b, c, e, owns_keep ho hg gr⟩
theorem LL.snoc {W W' : World} {base g cap g' c' b m c : Nat} {vs : List Value} {L : List (List Int)} {x : List Int} (h : LL W base g cap vs L) (hx : Owns W base (.slice (some ⟨b, 0, none⟩) m c) x) (hm : x.length = m) (gr : W.grownBy W' (some g))
    (own : W'.ownsRow base 55 1 (.slice (some ⟨g', 0, none⟩) (L.length + 1) c') (L.length + 1) (vs ++ [.slice (some ⟨b, 0, none⟩) m c])) : LL W' base g' c' (vs ++ [.slice (some ⟨b, 0, none⟩) m c]) (L ++ [x]) := by
  obtain ⟨_, cur, hg⟩ := h.gobj
  have hlen : vs.length = L.length := by have := h.own.1; omega
  refine ⟨by simpa using own, fun k hk => ?_⟩
  by_cases hk2 : k < L.length
  · obtain ⟨b2, c2, e, ho⟩ := h.row k hk2
    rw [List.getElem_append_left hk2]
    exact ⟨b2, c2, by rw [List.getElem?_append_left (by omega)]; exact e, owns_keep ho hg gr⟩
  · have hkl : k = L.length := by simp at hk; omega
    subst hkl
    refine ⟨b, c, ?_, ?_⟩
    · rw [List.getElem?_append_right (by omega), hlen]; simp [hm]
    · simp only [List.getElem_concat_length, hm]
      exact owns_keep hx hg gr
theorem LL.cell {W : World} {base g cap : Nat} {vs : List Value} {L : List (List Int)} (h : LL W base g cap vs L) (k : Nat) (hk : k < L.length) : ∃ b c, W.cell? ⟨g, k, none⟩ = some (.slice (some ⟨b, 0, none⟩) (L[k]).length c) ∧ Owns W base (.slice (some ⟨b, 0, none⟩) (L[k]).length c) L[k] := by
  obtain ⟨b, c, e, ho⟩ := h.row k hk
  exact ⟨b, c, by rw [World.ownsRow.cellAt h.own k (by omega)]; exact e, ho⟩
theorem LL.mono {W : World} {b1 b2 g cap : Nat} {vs : List Value} {L : List (List Int)} (h : LL W b1 g cap vs L) (hb : b2 ≤ b1) : LL W b2 g cap vs L := by
  refine ⟨?_, fun k hk => ?_⟩
  · obtain ⟨h1, h2 | ⟨g, cap, cur, e1, e2, e3, r⟩⟩ := h.own
    · exact ⟨h1, .inl h2⟩
    · exact ⟨h1, .inr ⟨g, cap, cur, e1, Nat.le_trans hb e2, e3, r⟩⟩
  · obtain ⟨b, c, e, ho⟩ := h.row k hk
    exact ⟨b, c, e, ho.mono hb⟩

theorem infoSI : (Try.prog.info? 55).map (fun i => (i.zero, i.size, i.bytes)) = some (some (.slice none 0 0), 1, 24) := by kernel_rfl
end Go.Proofs.Ytdgpjpcdifpllaa

/- BL2:
  BasesOf: the parts of a list by the model (l02Parts). -/
namespace Go.Proofs.Ytdgpjpcdifpllaa
open Go.RowKit
set_option linter.unusedVariables false
set_option linter.unusedSimpArgs false

/-- An append to an own list: the new list lies where the old one lay, or behind all. -/
theorem wpList_append_at {P : Program} {w : World} {ops : Array Oper} {rest : List Oper} {o : Oper} {a : Act} {Q : Exit → Act → World → Prop} (hgd : o.guard = none) (s x : Operand) (t : TypeId)
    (ho : o.op = .call { callee := .builtin .append, args := #[s, x], argTypes := #[t, t] })
    (base : Nat) (e : TypeId) (i : TypeInfo) (z : Value) (size bytes : Nat) (ht : P.underlying t = some (.slice e)) (hi : P.info? e = some i) (hz : i.zero = some z)
    (hsize : i.size = size) (hby : i.bytes = bytes) (hzs : z.cells.size = size) (hsz : 0 < size)
    (g n cap : Nat) (xs : List Value) (hs : a.eval s = .slice (some ⟨g, 0, none⟩) n cap) (hown : w.ownsRow base e size (.slice (some ⟨g, 0, none⟩) n cap) n xs)
    (ad : Addr) (m c : Nat) (news : List Value) (hx : a.eval x = .slice (some ad) m c) (hl : news.length = m * size) (hnews : ∀ j u, news[j]? = some u → w.cell? (ad.add j) = some u) (h1 : ∀ u ∈ news, u.oneCell' = true)
    (h63 : n + m ≤ maxLen) (hbytes : (n + m) * bytes ≤ 140737488355328) (hbase : base ≤ w.heap.size) (hm : 0 < m)
    (h : ∀ g' c' w', w'.ownsRow base e size (.slice (some ⟨g', 0, none⟩) (n + m) c') (n + m) (xs ++ news) → w.grownBy w' (some g) → (g' = g ∨ w.heap.size ≤ g') → wpList P ops Q rest (a.put o.dst (.slice (some ⟨g', 0, none⟩) (n + m) c')) w') : wpList P ops Q (o :: rest) a w := by
  by_cases hr : n + m ≤ cap
  · exact wpList_append_own_spare w hgd s x t ho base e i size ht hi hsize g n cap xs hs hown ad m c news hx hl hnews h1 hr (fun w' h2 h3 => h g cap w' h2 h3 (.inl rfl))
  · refine wpList_append_grows w hgd s x t ho e i z size bytes ht hi hz hsize hby hzs hsz (some ⟨g, 0, none⟩) n cap xs hs (fun h => by cases h) hown.1 (fun b e j u hj => by cases e; exact hown.cells rfl j u hj) ad m c news hx hl hnews h1 (by omega) h63 hbytes (fun v' w' h2 h3 => ?_)
    rcases h2.2 with ⟨_, h0⟩ | ⟨g', cap', cur, rfl, hbg, rest'⟩
    · omega
    · exact h g' cap' w' ⟨h2.1, .inr ⟨g', cap', cur, rfl, by omega, rest'⟩⟩ ⟨h3.os, h3.tape, h3.output, h3.size, fun k hk _ => h3.block k hk (by simp)⟩ (.inr hbg)

theorem partsTo_len {n k i j : Nat} (hij : i ≤ j) (hjn : j ≤ n) : (partsTo n k i j).length ≤ 2 ^ (n - i) := by
  have h1 := flatMap_len (List.range' i (j - i)) (fun (j : Nat) => (partsN n k (j + 1)).map fun r => (j : Int) :: r) (fun t => 2 ^ (n - (t + 1))) (fun x _ => by simpa using partsN_len n k (x + 1))
  exact Nat.le_trans h1 (Nat.le_trans (Nat.le_add_right _ _) (range'_pow (j - i) i n (by omega)))
theorem take_cons {Q : List (List Int)} {j : Int} {q : Nat} (h : q < Q.length) : (Q.take (q + 1)).map (fun r => j :: r) = (Q.take q).map (fun r => j :: r) ++ [j :: Q[q]] := by
  rw [List.take_succ_eq_append_getElem h, List.map_append]; rfl
theorem one_cell_slice (a : Option Addr) (n c : Nat) : ∀ u ∈ [Value.slice a n c], u.oneCell' = true := by intro u hu; simp at hu; subst hu; rfl
theorem ints_one (l : List Int) : ∀ u ∈ ints l, u.oneCell' = true := by
  intro u hu
  unfold ints at hu
  obtain ⟨x, _, rfl⟩ := List.mem_map.1 hu
  rfl
/-- What a call of l02Parts answers. -/
def PartsPost (n k i : Nat) (w : World) (e : Ending) (w' : World) : Prop := ∃ g cap vs, e = .returned (.slice (some ⟨g, 0, none⟩) (partsN n k i).length cap) ∧ LL w' w.heap.size g cap vs (partsN n k i) ∧ Below w.heap.size w w'

set_option maxRecDepth 100000 in
set_option maxHeartbeats 4000000 in
theorem l02Parts_any {n : Nat} (hn : n ≤ 8) : ∀ (k : Nat) (K : Int), K = (k : Int) → k ≤ 8 → ∀ (i : Nat) (I : Int), I = (i : Int) → i ≤ 9 → ∀ w : World,
    Calls Try.prog 129 #[.int .i64 (n : Int), .int .i64 K, .int .i64 I] w (PartsPost n k i w)
  | 0, K, hK, _, i, I, hI, hi9, w => by
    subst hK hI
    go_enter Try.func129, Try.ntmps129
    go_wp2_with fail
    go_ret
    refine ⟨w.heap.size + 1, 1, [.slice (some ⟨w.heap.size, 0, none⟩) 0 0], rfl, ⟨?_, fun k hk => ?_⟩, balloc (bnew w _) _⟩
    · have := World.ownsRow_lit (base := w.heap.size) (e := 55) (size := 1) (w.alloc (.cells #[] 2)) #[.slice (some ⟨w.heap.size, 0, none⟩) 0 0] 1 (by simp) (by decide) rfl
      simpa [partsN] using this
    · obtain rfl : k = 0 := by simpa [partsN] using hk
      refine ⟨w.heap.size, 0, rfl, ?_⟩
      have := World.ownsRow_lit (base := w.heap.size) (e := 2) (size := 1) w #[] 0 (Nat.le_refl _) (by decide) rfl
      exact World.ownsRow.alloc this _
  | k + 1, K, hK, hk8, i, I, hI, hi9, w => by
    have IH := Lib.hid (fun (i' : Nat) (h : i' ≤ 9) (w' : World) => l02Parts_any hn k (k : Int) rfl (by omega) i' (i' : Int) rfl h w')
    have hLen := Lib.hid (partsN_len n k)
    have hK1 : IntKind.i64.wrap (K - 1) = (k : Int) := by rw [hK, show (((k + 1 : Nat) : Int) - 1) = (k : Int) by omega]; exact wrap64_small (by omega) (by omega)
    have hK0 : (K == 0) = false := by rw [hK]; simp; omega
    clear hK
    subst hI
    obtain ⟨i0, hi, hz0, hz1, hz2⟩ := info_parts infoI
    obtain ⟨i1, hj, hy0, hy1, hy2⟩ := info_parts infoSI
    go_enter Try.func129, Try.ntmps129
    go_wp2_with fail
    have H0 : LL (w.alloc (.cells #[] 55)) w.heap.size w.heap.size 0 [] (partsTo n k i i) := by
      rw [partsTo_first]
      refine ⟨?_, fun k hk => by simp at hk⟩
      exact World.ownsRow_lit (base := w.heap.size) (e := 55) (size := 1) w #[] 0 (Nat.le_refl _) (by decide) rfl
    have HT := Lib.hid (partsTo_first n k i)
    go_loopw [7, 8] (fun s' i' wr => ∃ (j g cap : Nat) (vs : List Value), i ≤ j ∧ (j ≤ n ∨ j = i) ∧ i' = .int .i64 (j : Int) ∧ s' = .slice (some ⟨g, 0, none⟩) (partsTo n k i j).length cap ∧ Hid (LL wr w.heap.size g cap vs (partsTo n k i j)) ∧ Below w.heap.size w wr) (fun _ i' _ => n - (intOf i').toNat)
    case atStart => exact ⟨i, w.heap.size, 0, [], Nat.le_refl _, .inr rfl, rfl, by rw [HT.out]; rfl, Lib.hid H0, bnew _ _⟩
    case round =>
      clear H0
      obtain ⟨j, g, cap, vs, hij, hjn, rfl, rfl, HL, hB⟩ := hrel
      by_cases hlt : j < n
      · have e1 := partsTo_succ (n := n) (k := k) hij
        have e2 := partsTo_len (n := n) (k := k) (i := i) (j := j + 1) (by omega) (by omega)
        have e3 : (2 : Nat) ^ (n - i) ≤ 2 ^ 8 := Nat.pow_le_pow_right (by decide) (by omega)
        have e4 := partsN_row n k (j + 1)
        have PH := Lib.hid (fun w' => IH.out (j + 1) (by omega) w')
        have hd : decide ((j : Int) < (n : Int)) = true := by simp; omega
        clear IH hLen HT
        go_wp2_with fail
        refine (PH.out _).mono ?_
        rintro e w2 ⟨g2, cap2, vs2, rfl, h2, hb2⟩
        have HL2 := Lib.hid (HL.out.below hb2)
        have hB2 := bthen hB hb2
        have hgl := HL.out.lt
        have hg2 := h2.gobj.1
        have hne : ¬ g = g2 := by omega
        have hws := hB.size
        generalize partsN n k (j + 1) = Q at h2 e1 e4 ⊢
        rw [e1] at e2
        generalize partsTo n k i j = P at HL2 e1 e2 ⊢
        have E1 := Lib.hid e1
        have E4 := Lib.hid e4
        have hPQ : P.length + Q.length ≤ 256 := by simp at e2; omega
        obtain ⟨LQ, hLQ⟩ : ∃ LQ, Q.length = LQ := ⟨_, rfl⟩
        obtain ⟨LP, hLP⟩ : ∃ LP, P.length = LP := ⟨_, rfl⟩
        rw [hLQ, hLP]
        rw [hLQ, hLP] at hPQ
        have H2 := Lib.hid h2
        have HQ := Lib.hid hLQ
        have HP := Lib.hid hLP
        clear HL PH hB hb2 h2 e1 e2 e3 e4 hLQ hLP hd
        generalize wr.heap.size = bR at H2 hgl hg2 hws
        clear hgl
        go_wp2_with fail
        go_loopw [7, 10] (fun s' q' wq => ∃ (q N g cap : Nat) (vs : List Value), q ≤ LQ ∧ q' = .int .i64 (q : Int) ∧ Hid (N = LP + q) ∧ s' = .slice (some ⟨g, 0, none⟩) N cap ∧ Hid (LL wq w.heap.size g cap vs (P ++ (Q.take q).map fun r => (j : Int) :: r)) ∧ Hid (LL wq bR g2 cap2 vs2 Q) ∧ ¬ g = g2 ∧ Below w.heap.size w wq) (fun _ q' _ => LQ - (intOf q').toNat)
        case atStart => exact ⟨0, LP, g, cap, vs, Nat.zero_le _, rfl, Lib.hid rfl, rfl, by simpa using HL2, H2, hne, hB2⟩
        case round =>
          clear HL2 H2 hne hB2 hg2
          obtain ⟨q, N, g, cap, vs, hq, rfl, hN, rfl, HL, H2, hne, hB⟩ := hrel
          by_cases hlt2 : q < LQ
          · have hqQ : q < Q.length := by rw [HQ.out]; exact hlt2
            obtain ⟨b, c, p0, hrow⟩ := H2.out.cell q hqQ
            have TC := Lib.hid (take_cons (j := (j : Int)) hqQ)
            have hm8 := E4.out _ (List.getElem_mem hqQ)
            generalize Q[q] = x at p0 hrow TC hm8
            have hxm : x.length = k := hm8
            rw [hm8] at p0 hrow
            have OX := Lib.hid hrow
            have hg2l := H2.out.lt
            have hgl := HL.out.lt
            have hqL : decide ((q : Int) < (LQ : Int)) = true := by simp; omega
            have i1' : (0 : Int) ≤ (q : Int) := by omega
            have i2' : (q : Int) < (LQ : Int) := by omega
            have hsz := hB.size
            have hNb : N ≤ 256 := by have := hN.out; omega
            clear hrow hm8
            have hlit := World.ownsRow_lit (base := wr.heap.size) (e := 2) (size := 1) wr #[.int .i64 (j : Int)] 1 (Nat.le_refl _) (by decide) rfl
            have HLIT := Lib.hid hlit
            clear hlit
            have hgz : g2 < wr.heap.size := hg2l
            go_wp2_with (at_builtin; refine wpList_append_own _ rfl _ _ 55 rfl wr.heap.size 2 i0 (.int .i64 0) 1 8 Try.underlying55 hi hz0 hz1 hz2 rfl (by decide) _ _ _ rfl HLIT.out ⟨b, 0, none⟩ k c (ints x) rfl (by simp [ints, hxm]) (World.ownsRow.cells (OX.out.alloc _) rfl) (ints_one _) (by unfold maxLen; omega) (by omega) (by simp) ?_)
            intro v' w3 own3 gr3 _
            obtain ⟨b3, c3, rfl, hb3⟩ : ∃ b3 c3, v' = .slice (some ⟨b3, 0, none⟩) (1 + k) c3 ∧ wr.heap.size ≤ b3 := by
              obtain ⟨_, ⟨_, h0⟩ | ⟨g', cap', cur, e, h1, _⟩⟩ := own3
              · omega
              · exact ⟨g', cap', e, h1⟩
            have hA : Below wr.heap.size wr w3 := (bnew wr (.cells #[.int .i64 (j : Int)] 2)).grown gr3 (by simp) (fun j' e => by simp [Value.ownBlock] at e; omega)
            have HL3 := Lib.hid (HL.out.below hA)
            have H23 := Lib.hid (H2.out.below hA)
            have hB3 := bthen hB hA
            have hx3 : Owns w3 w.heap.size (.slice (some ⟨b3, 0, none⟩) (1 + k) c3) ((j : Int) :: x) := by
              have h := World.ownsRow.kept own3 (World.grownBy_alloc w3 (.cells #[] 2) none) (by simp [Value.ownBlock])
              have := Owns.mono (b2 := w.heap.size) (show Owns w3 wr.heap.size (.slice (some ⟨b3, 0, none⟩) (1 + k) c3) ((j : Int) :: x) by
                unfold Owns
                rw [show ((j : Int) :: x).length = 1 + k by simp [hxm]; omega]
                exact own3) hsz
              exact this
            have HX3 := Lib.hid hx3
            have hsz3 := hA.size
            have hlenL : (P ++ (Q.take q).map fun r => (j : Int) :: r).length = N := by
              rw [List.length_append, List.length_map, List.length_take, HP.out, HQ.out, hN.out]; omega
            have OL : w3.ownsRow w.heap.size 55 1 (.slice (some ⟨g, 0, none⟩) N cap) N vs := by
              have := HL3.out.own
              rwa [hlenL] at this
            have HOL := Lib.hid OL
            have HNL := Lib.hid hlenL
            clear own3 gr3 hA hx3 OL hlenL HL H2 HLIT hB
            go_wp2_with (at_builtin; refine wpList_append_at rfl _ _ 91 rfl w.heap.size 55 i1 (.slice none 0 0) 1 24 Try.underlying91 hj hy0 hy1 hy2 rfl (by decide) g N cap _ rfl (HOL.out.alloc _) ⟨w3.heap.size, 0, none⟩ 1 1 [.slice (some ⟨b3, 0, none⟩) (1 + k) c3] rfl rfl (cell_one_new _ _ _) (one_cell_slice _ _ _) (by unfold maxLen; omega) (by omega) (by simp; omega) (by decide) ?_)
            intro g' c' w4 own4 gr4 hgg
            have hgg' : g' = g ∨ w3.heap.size + 1 ≤ g' := by simpa using hgg
            have hal := bnew w3 (.cells #[.slice (some ⟨b3, 0, none⟩) (1 + k) c3] 55)
            have HL4 := HL3.out.below hal
            have ⟨hbg, cur, hobj⟩ := HL4.gobj
            have H25 := Lib.hid (LL.other (H23.out.below hal) hobj hne gr4)
            have hL5 := LL.snoc HL4 (HX3.out.below hal) (by simp [hxm]; omega) gr4 (by rw [HNL.out]; exact own4)
            have HL5 : Hid (LL w4 w.heap.size g' c' (vs ++ [.slice (some ⟨b3, 0, none⟩) (1 + k) c3]) (P ++ (Q.take (q + 1)).map fun r => (j : Int) :: r)) := by
              rw [TC.out, ← List.append_assoc]
              exact Lib.hid hL5
            have hB5 : Below w.heap.size w w4 := (bthen hB3 hal).grown gr4 (by simp; omega) (fun j' e => by cases e; exact hbg)
            have hne5 : ¬ g' = g2 := by omega
            clear own4 gr4 hgg hgg' hal HL4 hobj hL5 HL3 H23 hB3 HX3 HOL TC p0 OX
            go_wp2
            go_roundw
            case rel => exact ⟨q + 1, N + 1, g', c', _, by omega, by go_num, Lib.hid (by have := hN.out; omega), rfl, HL5, H25, hne5, hB5⟩
            case measure => simp [intOf]; omega
          · obtain rfl : q = LQ := by omega
            have hqL : decide ((q : Int) < (q : Int)) = false := by simp
            go_wp2_with fail
            go_roundw
            case rel =>
              refine ⟨j + 1, g, cap, vs, by omega, .inl (by omega), by go_num, ?_, ?_, hB⟩
              · rw [E1.out, List.length_append, List.length_map, HP.out, HQ.out, hN.out]
              · rw [E1.out]
                have := HL.out
                rw [← HQ.out, List.take_length] at this
                exact Lib.hid this
            case measure => simp [intOf]; omega
      · have HE := Lib.hid (partsTo_last (n := n) (k := k) (i := i) (j := j) (by omega))
        generalize hP : partsTo n k i j = P at HL HE ⊢
        clear hP
        have hd : decide ((j : Int) < (n : Int)) = false := by simp; omega
        go_wp2_with fail
        go_ret
        have e := HE.out
        subst e
        exact ⟨g, cap, vs, rfl, HL.out, hB⟩
end Go.Proofs.Ytdgpjpcdifpllaa

/- BL3:
  BasesOf: l02Base of the model at any part of a list. -/
namespace Go.Proofs.Ytdgpjpcdifpllaa
open Go.RowKit
set_option linter.unusedVariables false
set_option linter.unusedSimpArgs false

theorem bit_in : ∀ p < 256, ∀ i < 8, bitN p i = 1 → (bits .and .i64 (p : Int) ((2 : Int) ^ i) != 0) = true ∧ wrap64 ((p : Int) - (2 : Int) ^ i) = ((p - 2 ^ i : Nat) : Int) := by decide +kernel
theorem bit_out : ∀ p < 256, ∀ i < 8, bitN p i = 0 → (bits .and .i64 (p : Int) ((2 : Int) ^ i) != 0) = false := by decide +kernel
theorem pow_in : ∀ i < 8, wrap64 (2 ^ i) = (2 : Int) ^ i := by decide +kernel
/-- No place of the part p that lies below j can be left out. -/
def needM (xs : List (Int × Int)) (p j : Nat) : Bool := allLt j fun i => !(bitN p i == 1) || !((partN xs (p - 2 ^ i) : Int) == 0)
theorem needM_succ (xs : List (Int × Int)) (p j : Nat) : needM xs p (j + 1) = (needM xs p j && (!(bitN p j == 1) || !((partN xs (p - 2 ^ j) : Int) == 0))) := allLt_succ _ _
theorem needM_false {xs : List (Int × Int)} {p k m : Nat} (hk : k < m) (hb : bitN p k = 1) (h : ((partN xs (p - 2 ^ k) : Int) == 0) = true) : needM xs p m = false := by
  induction m with
  | zero => omega
  | succ m ih =>
    rw [needM_succ]
    by_cases e : k = m
    · subst e; simp [h, hb]
    · rw [ih (by omega)]; rfl
/-- The part p of a list is a base. -/
def baseM (xs : List (Int × Int)) (p : Nat) : Bool := (partN xs p : Int) == 0 && needM xs p xs.length

set_option maxRecDepth 100000 in
set_option maxHeartbeats 4000000 in
theorem l02BaseM_any {base : Nat} {s : Value} {xs : List (Int × Int)} (hx : AreF xs) (h8 : xs.length ≤ 8) {p : Nat} (hp : p < 256) (w : World) (h : OwnsF w base s xs) {b : Bool} (hb : baseM xs p = b) :
    Calls Try.prog 130 #[s, .int .i64 (p : Int)] w fun e w' => e = .returned (.bool b) ∧ Below w.heap.size w w' := by
  have hl : xs.length ≤ 1048576 := by omega
  have HX := Lib.hid hx
  have HS := Lib.hid h
  unfold baseM at hb
  have HB := Lib.hid hb
  obtain ⟨a, cap, rfl, _⟩ := h.cells
  have LC0 := Lib.hid (l02Classes_any hl HX.out p (by omega) (by omega) w h)
  clear h hx hb
  cases hc : ((partN xs p : Int) == 0)
  · have hne : ((partN xs p : Int) != 0) = true := by simpa using hc
    rw [hc] at HB
    obtain rfl : b = false := HB.out.symm
    go_enter Try.func130, Try.ntmps130
    go_wp2_with (go_at_call 176; refine (LC0.out).mono ?_; rintro e w2 ⟨rfl, hb2⟩)
    go_ret
    exact ⟨rfl, hb2⟩
  · have hne : ((partN xs p : Int) != 0) = false := by simpa using hc
    rw [hc, Bool.true_and] at HB
    go_enter Try.func130, Try.ntmps130
    go_wp2_with (go_at_call 176; refine (LC0.out).mono ?_; rintro e w2 ⟨rfl, hb2⟩; replace HS := Lib.hid (HS.out.below hb2))
    go_loopw [5] (fun i' wr => ∃ i : Nat, i ≤ xs.length ∧ i' = .int .i64 i ∧ Hid (needM xs p i = true) ∧ Below w2.heap.size w2 wr) (fun i' _ => xs.length - (intOf i').toNat)
    case atStart => exact ⟨0, Nat.zero_le _, rfl, Lib.hid rfl, Below.refl _ _⟩
    case round =>
      clear LC0
      obtain ⟨i, hi, rfl, hnd, hN⟩ := hrel
      by_cases hlt : i < xs.length
      · have f1 := pow_in i (by omega)
        have LC := Lib.hid (l02Classes_any hl HX.out (p - 2 ^ i) (Nat.lt_of_le_of_lt (Nat.sub_le _ _) (by omega)) (by omega) wr (HS.out.below hN))
        have HSU := Lib.hid (needM_succ xs p i)
        rcases (show bitN p i = 0 ∨ bitN p i = 1 by have := bitN_le p i; omega) with hb0 | hb1
        · have f2 := bit_out p hp i (by omega) hb0
          have HND := Lib.hid (show needM xs p (i + 1) = true by rw [HSU.out, hnd.out, hb0]; rfl)
          clear LC hb0 HSU
          go_wp2_with fail
          go_roundw
          case rel => exact ⟨i + 1, by omega, by go_num, HND, hN⟩
          case measure => simp [intOf]; omega
        · obtain ⟨f2, f3⟩ := bit_in p hp i (by omega) hb1
          cases hz : ((partN xs (p - 2 ^ i) : Int) == 0)
          · have HND := Lib.hid (show needM xs p (i + 1) = true by rw [HSU.out, hnd.out, hz]; simp)
            clear HSU hb1
            generalize p - 2 ^ i = pr at f3 LC hz
            go_wp2_with (go_at_call 176; refine (LC.out).mono ?_; rintro e w3 ⟨rfl, hb3⟩)
            go_roundw
            case rel => exact ⟨i + 1, by omega, by go_num, HND, bthen hN hb3⟩
            case measure => simp [intOf]; omega
          · have HF := Lib.hid (needM_false hlt hb1 hz)
            clear HSU hb1
            generalize p - 2 ^ i = pr at f3 LC hz
            go_wp2_with (go_at_call 176; refine (LC.out).mono ?_; rintro e w3 ⟨rfl, hb3⟩)
            go_ret
            exact ⟨by rw [← HB.out, HF.out]; rfl, bthen hb2 (bthen hN hb3)⟩
      · obtain rfl : i = xs.length := by omega
        go_wp2
        go_ret
        exact ⟨by rw [← HB.out, hnd.out]; rfl, bthen hb2 hN⟩
end Go.Proofs.Ytdgpjpcdifpllaa

/- BL4:
  BasesOf of the model. -/
namespace Go.Proofs.Ytdgpjpcdifpllaa
open Go.RowKit
set_option linter.unusedVariables false
set_option linter.unusedSimpArgs false

/-- The number of a part. -/
def maskN (r : List Int) : Nat := r.foldl (fun m x => m ||| 2 ^ x.toNat) 0
theorem maskN_snoc (r : List Int) (x : Int) : maskN (r ++ [x]) = maskN r ||| 2 ^ x.toNat := by simp [maskN, List.foldl_append]
theorem foldl_lt : ∀ (r : List Int) (m : Nat), m < 2 ^ 8 → (∀ x ∈ r, x.toNat < 8) → r.foldl (fun m x => m ||| 2 ^ x.toNat) m < 2 ^ 8
  | [], m, h, _ => h
  | x :: r, m, h, hr => foldl_lt r _ (Nat.or_lt_two_pow h (Nat.pow_lt_pow_right (by decide) (hr x (by simp)))) fun y hy => hr y (by simp [hy])
theorem maskN_lt {r : List Int} (h : ∀ x ∈ r, x.toNat < 8) : maskN r < 256 := foldl_lt r 0 (by decide) h
theorem partsN_mem (n : Nat) : ∀ k i, ∀ r ∈ partsN n k i, ∀ x ∈ r, ∃ y : Nat, x = (y : Int) ∧ y < n
  | 0, i => by simp [partsN]
  | k + 1, i => by
    intro r hr x hx
    unfold partsN at hr
    obtain ⟨j, hj, hr⟩ := List.mem_flatMap.1 hr
    obtain ⟨q, hq, rfl⟩ := List.mem_map.1 hr
    rcases List.mem_cons.1 hx with rfl | hx
    · obtain ⟨t, ht, e⟩ := List.mem_range'.1 hj
      exact ⟨j, rfl, by omega⟩
    · exact partsN_mem n k (j + 1) q hq x hx
/-- The bases with fewer than k places. -/
def basesTo (xs : List (Int × Int)) (n k : Nat) : List (List Int) := (List.range k).flatMap fun t => (partsN n t 0).filter fun r => baseM xs (maskN r)
theorem basesTo_succ (xs : List (Int × Int)) (n k : Nat) : basesTo xs n (k + 1) = basesTo xs n k ++ (partsN n k 0).filter fun r => baseM xs (maskN r) := by
  simp [basesTo, List.range_succ]
theorem basesTo_len (xs : List (Int × Int)) (n : Nat) : ∀ k, (basesTo xs n k).length ≤ k * 2 ^ n
  | 0 => by simp [basesTo]
  | k + 1 => by
    rw [basesTo_succ, List.length_append, Nat.succ_mul]
    have h1 := basesTo_len xs n k
    have h2 := Nat.le_trans (List.length_filter_le (fun r => baseM xs (maskN r)) (partsN n k 0)) (partsN_len n k 0)
    rw [Nat.sub_zero] at h2
    omega
theorem or_in : ∀ m : Nat, m < 256 → ∀ i : Nat, i < 8 → bits .or .i64 (m : Int) ((2 : Int) ^ i) = ((m ||| 2 ^ i : Nat) : Int) := by decide +kernel
theorem filter_take {Q : List (List Int)} {f : List Int → Bool} {q : Nat} (h : q < Q.length) : (Q.take (q + 1)).filter f = (Q.take q).filter f ++ (if f Q[q] then [Q[q]] else []) := by
  rw [List.take_succ_eq_append_getElem h, List.filter_append]
  simp only [List.filter_cons, List.filter_nil]

/-- What BasesOf answers. -/
def BasesPost (L : List (List Int)) (w : World) (e : Ending) (w' : World) : Prop := ∃ g cap vs, e = .returned (.tuple #[.slice (some ⟨g, 0, none⟩) L.length cap, .int .i64 0]) ∧ LL w' w.heap.size g cap vs L ∧ Below w.heap.size w w'

set_option maxRecDepth 100000 in
set_option maxHeartbeats 8000000 in
theorem specBasesOf_yes {base : Nat} {s : Value} {xs : List (Int × Int)} (hc : codeL xs = 0) (w : World) (h : OwnsF w base s xs) :
    Calls Try.prog 63 #[s] w (BasesPost (basesTo xs xs.length (xs.length + 1)) w) := by
  obtain ⟨hx, h8⟩ := codeL_ok hc
  have hl : xs.length ≤ 1048576 := by omega
  have LC := Lib.hid (l02Code_any hl w h hc)
  have BM := Lib.hid (fun p hp (w' : World) (h' : OwnsF w' base s xs) => l02BaseM_any hx h8 (p := p) hp w' h' rfl)
  obtain ⟨a, cap0, rfl, _⟩ := h.cells
  obtain ⟨n, hn⟩ : ∃ n, xs.length = n := ⟨_, rfl⟩
  rw [hn] at h h8 BM LC ⊢
  have HS := Lib.hid h
  have HS0 := Lib.hid h
  clear h hc hx hl hn
  obtain ⟨i1, hj, hy0, hy1, hy2⟩ := info_parts infoSI
  go_enter Try.func63, Try.ntmps63
  go_wp2_with fail
  refine (LC.out).mono ?_
  rintro e w1 ⟨rfl, hb1⟩
  have HS1 := Lib.hid (HS.out.below hb1)
  have hb1' := Lib.hid hb1
  clear HS LC hb1
  go_wp2_with fail
  have HB1 : Below w.heap.size w (w1.alloc (.cells #[] 55)) := bthen hb1'.out (bnew _ _)
  have H0 : LL (w1.alloc (.cells #[] 55)) w.heap.size w1.heap.size 0 [] (basesTo xs n 0) := by
    refine ⟨?_, fun k hk => by simp [basesTo] at hk⟩
    exact World.ownsRow_lit (base := w.heap.size) (e := 55) (size := 1) w1 #[] 0 hb1'.out.size (by decide) rfl
  have HS2 := Lib.hid (HS1.out.below (bnew w1 (.cells #[] 55)))
  go_loopw [5, 7] (fun s' k' wr => ∃ (k g cap : Nat) (vs : List Value), k ≤ n + 1 ∧ k' = .int .i64 (k : Int) ∧ s' = .slice (some ⟨g, 0, none⟩) (basesTo xs n k).length cap ∧ Hid (LL wr w.heap.size g cap vs (basesTo xs n k)) ∧ Hid (OwnsF wr base (.slice a n cap0) xs) ∧ Below w.heap.size w wr) (fun _ k' _ => n + 1 - (intOf k').toNat)
  case atStart => exact ⟨0, w1.heap.size, 0, [], Nat.zero_le _, rfl, rfl, Lib.hid H0, HS2, HB1⟩
  case round =>
    clear H0 HS2 HB1 HS1 hb1'
    obtain ⟨k, g, cap, vs, hk, rfl, rfl, HL, HS, hB⟩ := hrel
    by_cases hlt : k ≤ n
    · have hd : decide ((k : Int) ≤ (n : Int)) = true := by simp; omega
      have PC := Lib.hid (fun w' => l02Parts_any (n := n) h8 k (k : Int) rfl (by omega) 0 0 rfl (by omega) w')
      have e1 := basesTo_succ xs n k
      have e2 := basesTo_len xs n (k + 1)
      have e3 : (2 : Nat) ^ n ≤ 2 ^ 8 := Nat.pow_le_pow_right (by decide) h8
      have e4 := partsN_row n k 0
      have e5 := partsN_mem n k 0
      have e6 := partsN_len n k 0
      have e7 : (k + 1) * 2 ^ n ≤ 9 * 2 ^ 8 := Nat.mul_le_mul (by omega) e3
      have e8 := basesTo_len xs n k
      have e9 : k * 2 ^ n ≤ 9 * 2 ^ 8 := Nat.mul_le_mul (by omega) e3
      rw [Nat.sub_zero] at e6
      go_wp2_with fail
      refine (PC.out _).mono ?_
      rintro e w2 ⟨g2, cap2, vs2, rfl, h2, hb2⟩
      have HL2 := Lib.hid (HL.out.below hb2)
      have HS2 := Lib.hid (HS.out.below hb2)
      have hB2 := bthen hB hb2
      have hgl := HL.out.lt
      have hg2 := h2.gobj.1
      have hne : ¬ g = g2 := by omega
      have hws := hB.size
      generalize partsN n k 0 = Q at h2 e1 e4 e5 e6 ⊢
      obtain ⟨P, hP⟩ : ∃ P, basesTo xs n k = P := ⟨_, rfl⟩
      rw [hP] at HL2 e1 e8 ⊢
      have E1 := Lib.hid e1
      have E4 := Lib.hid e4
      have E5 := Lib.hid e5
      obtain ⟨LQ, hLQ⟩ : ∃ LQ, Q.length = LQ := ⟨_, rfl⟩
      obtain ⟨LP, hLP⟩ : ∃ LP, P.length = LP := ⟨_, rfl⟩
      rw [hLQ] at e6 ⊢
      rw [hLP] at e8 ⊢
      have hLQ8 : LQ ≤ 256 := Nat.le_trans e6 e3
      have hLP8 : LP ≤ 2304 := Nat.le_trans e8 e9
      have H2 := Lib.hid h2
      have HQ := Lib.hid hLQ
      have HP := Lib.hid hLP
      clear HL HS PC hB hb2 h2 e1 e2 e3 e4 e5 e6 e7 e8 e9 hLQ hLP hd hP
      generalize wr.heap.size = bR at H2 hgl hg2 hws
      clear hgl hg2
      go_wp2_with fail
      go_loopw [5, 9] (fun s' q' wq => ∃ (q N g cap : Nat) (vs : List Value), q ≤ LQ ∧ q' = .int .i64 (q : Int) ∧ N ≤ 2304 + q ∧ s' = .slice (some ⟨g, 0, none⟩) N cap ∧ Hid ((P ++ (Q.take q).filter fun r => baseM xs (maskN r)).length = N) ∧ Hid (LL wq w.heap.size g cap vs (P ++ (Q.take q).filter fun r => baseM xs (maskN r))) ∧ Hid (LL wq bR g2 cap2 vs2 Q) ∧ Hid (OwnsF wq base (.slice a n cap0) xs) ∧ ¬ g = g2 ∧ Below w.heap.size w wq) (fun _ q' _ => LQ - (intOf q').toNat)
      case atStart => exact ⟨0, LP, g, cap, vs, Nat.zero_le _, rfl, by omega, rfl, Lib.hid (by simpa using HP.out), by simpa using HL2, H2, HS2, hne, hB2⟩
      case round =>
        clear HL2 H2 HS2 hne hB2
        obtain ⟨q, N, g, cap, vs, hq, rfl, hNb, rfl, HN, HL, H2, HS, hne, hB⟩ := hrel
        by_cases hlt2 : q < LQ
        · have hqQ : q < Q.length := by rw [HQ.out]; exact hlt2
          obtain ⟨b, c, p0, hrow⟩ := H2.out.cell q hqQ
          have TC := Lib.hid (filter_take (f := fun r => baseM xs (maskN r)) hqQ)
          have hm8 := E4.out _ (List.getElem_mem hqQ)
          have hmem := E5.out _ (List.getElem_mem hqQ)
          generalize Q[q] = x at p0 hrow TC hm8 hmem
          have HXM := Lib.hid hm8
          rw [hm8] at p0 hrow
          have OX := Lib.hid hrow
          have HME := Lib.hid hmem
          have hg2l := H2.out.lt
          have hqL : decide ((q : Int) < (LQ : Int)) = true := by simp; omega
          have i1' : (0 : Int) ≤ (q : Int) := by omega
          have i2' : (q : Int) < (LQ : Int) := by omega
          have P0 := Lib.hid p0
          have hxc : Hid (∀ j (h : j < k), wr.cell? ⟨b, j, none⟩ = some (.int .i64 (x[j]?.getD 0))) := Lib.hid fun j hjk => by
            have h9 : Owns wr bR (.slice (some ⟨b, 0, none⟩) k c) x := hrow
            unfold Owns at h9
            rw [hm8] at h9
            rw [World.ownsRow.cellAt h9 j (by omega)]
            simp [ints, show j < x.length by omega]
          clear hrow hm8 hmem
          obtain ⟨Wq, hWq⟩ : ∃ Wq, Wq = wr := ⟨_, rfl⟩
          subst hWq
          go_wp2_with fail
          clear p0
          go_loopw [10, 11] (fun p' j' wz => ∃ j : Nat, j ≤ k ∧ j' = .int .i64 (j : Int) ∧ p' = .int .i64 (maskN (x.take j) : Int) ∧ Hid (Below Wq.heap.size Wq wz)) (fun _ j' _ => k - (intOf j').toNat)
          case atStart => exact ⟨0, Nat.zero_le _, rfl, rfl, Lib.hid (Below.refl _ _)⟩
          case round =>
            obtain ⟨j, hjk, rfl, rfl, hBz⟩ := hrel
            by_cases hlt3 : j < k
            · obtain ⟨y, hy, hyn⟩ : ∃ y : Nat, x[j]?.getD 0 = (y : Int) ∧ y < n := by
                have hjx : j < x.length := by rw [HXM.out]; exact hlt3
                obtain ⟨y, e, h⟩ := HME.out _ (List.getElem_mem hjx)
                exact ⟨y, by rw [List.getElem?_eq_getElem hjx]; exact e, h⟩
              have hm1 : maskN (x.take j) < 256 := maskN_lt fun z hz => by
                obtain ⟨y', e, h'⟩ := HME.out z (List.mem_of_mem_take hz)
                rw [e]; simp; omega
              have HM1 := Lib.hid (show maskN (x.take (j + 1)) = maskN (x.take j) ||| 2 ^ y by
                have hjx : j < x.length := by rw [HXM.out]; exact hlt3
                rw [List.take_succ_eq_append_getElem hjx, maskN_snoc]
                rw [List.getElem?_eq_getElem hjx] at hy
                have : x[j] = (y : Int) := hy
                rw [this]; simp)
              have f1 := pow_in y (by omega)
              generalize maskN (x.take j) = m at hm1 HM1 ⊢
              have f2 := or_in m hm1 y (by omega)
              have c0 := kc hBz.out P0.out
              have c1 := kc hBz.out (hxc.out j hlt3)
              rw [hy] at c1
              have hdj : decide ((j : Int) < (k : Int)) = true := by simp; omega
              have j1' : (0 : Int) ≤ (j : Int) := by omega
              have j2' : (j : Int) < (k : Int) := by omega
              clear hy
              go_wp2_with fail
              go_roundw
              case rel => exact ⟨j + 1, by omega, by go_num, by rw [HM1.out], hBz⟩
              case measure => simp [intOf]; omega
            · obtain rfl : j = k := by omega
              have hm1 : maskN x < 256 := maskN_lt fun z hz => by
                obtain ⟨y', e, h'⟩ := HME.out z hz
                rw [e]; simp; omega
              have c0 := kc hBz.out P0.out
              have hdj : decide ((j : Int) < (j : Int)) = false := by simp
              rw [show x.take j = x by rw [← HXM.out]; exact List.take_length]
              have BC := Lib.hid (BM.out (maskN x) hm1 wr (HS.out.below hBz.out))
              generalize maskN x = m at hm1 TC BC ⊢
              go_wp2_with fail
              refine (BC.out).mono ?_
              rintro e w5 ⟨rfl, hb5⟩
              have hBq := bthen hBz.out hb5
              have HL5 := Lib.hid (HL.out.below hBq)
              have H25 := Lib.hid (H2.out.below hBq)
              have HS5 := Lib.hid (HS.out.below hBq)
              have OX5 := Lib.hid (Owns.below OX.out hBq)
              have hB5 := bthen hB hBq
              have c5 := kc hb5 c0
              have hsz5 := hBq.size
              have hg25 := Nat.lt_of_lt_of_le hg2l hsz5
              have hsw := hB5.size
              clear hb5 hBq c0 hB HL H2 HS OX BC hBz P0 hxc
              cases hbm : baseM xs m
              · have e9 : (Q.take (q + 1)).filter (fun r => baseM xs (maskN r)) = (Q.take q).filter (fun r => baseM xs (maskN r)) := by rw [TC.out, hbm]; simp
                have HN6 : Hid ((P ++ (Q.take (q + 1)).filter fun r => baseM xs (maskN r)).length = N) := by rw [e9]; exact HN
                have HL6 : Hid (LL w5 w.heap.size g cap vs (P ++ (Q.take (q + 1)).filter fun r => baseM xs (maskN r))) := by rw [e9]; exact HL5
                clear e9 HL5 TC HN hm1 hbm c5
                go_wp2
                go_roundw
                case rel => exact ⟨q + 1, N, g, cap, vs, by omega, by go_num, by omega, rfl, HN6, HL6, H25, HS5, hne, hB5⟩
                case measure => simp [intOf]; omega
              · have e9 : (Q.take (q + 1)).filter (fun r => baseM xs (maskN r)) = (Q.take q).filter (fun r => baseM xs (maskN r)) ++ [x] := by rw [TC.out, hbm]; simp
                have E9 := Lib.hid e9
                have OL : w5.ownsRow w.heap.size 55 1 (.slice (some ⟨g, 0, none⟩) N cap) N vs := by
                  have := HL5.out.own
                  rwa [HN.out] at this
                have HOL := Lib.hid OL
                have hbRw : Hid (w.heap.size ≤ bR) := Lib.hid hws
                clear e9 OL TC hm1 hbm
                go_wp2_with (at_builtin; refine wpList_append_at rfl _ _ 91 rfl w.heap.size 55 i1 (.slice none 0 0) 1 24 Try.underlying91 hj hy0 hy1 hy2 rfl (by decide) g N cap _ rfl (HOL.out.alloc _) ⟨w5.heap.size, 0, none⟩ 1 1 [.slice (some ⟨b, 0, none⟩) j c] rfl rfl (cell_one_new _ _ _) (one_cell_slice _ _ _) (by unfold maxLen; omega) (by omega) (by simp; omega) (by decide) ?_)
                intro g' c' w6 own6 gr6 hgg
                have hgg' : g' = g ∨ w5.heap.size + 1 ≤ g' := by simpa using hgg
                have hal := bnew w5 (.cells #[.slice (some ⟨b, 0, none⟩) j c] 55)
                have HL6 := HL5.out.below hal
                have ⟨hbg, cur, hobj⟩ := HL6.gobj
                have H26 := Lib.hid (LL.other (H25.out.below hal) hobj hne gr6)
                have hL7 := LL.snoc HL6 (Owns.mono (Owns.below OX5.out hal) hbRw.out) HXM.out gr6 (by rw [HN.out]; exact own6)
                have HL7 : Hid (LL w6 w.heap.size g' c' (vs ++ [.slice (some ⟨b, 0, none⟩) j c]) (P ++ (Q.take (q + 1)).filter fun r => baseM xs (maskN r))) := by
                  rw [E9.out, ← List.append_assoc]
                  exact Lib.hid hL7
                have HN7 : Hid ((P ++ (Q.take (q + 1)).filter fun r => baseM xs (maskN r)).length = N + 1) := Lib.hid (by
                  rw [E9.out, ← List.append_assoc, List.length_append, HN.out]; rfl)
                have hB7 : Below w.heap.size w w6 := (bthen hB5 hal).grown gr6 (by simp; omega) (fun j' e => by cases e; exact hbg)
                have HS7 : Hid (OwnsF w6 base (.slice a n cap0) xs) := Lib.hid (HS0.out.below hB7)
                have hne7 : ¬ g' = g2 := by omega
                clear own6 gr6 hgg hgg' hal HL6 hobj hL7 HL5 H25 hB5 OX5 HOL E9 HN c5 HS5
                go_wp2
                go_roundw
                case rel => exact ⟨q + 1, N + 1, g', c', _, by omega, by go_num, by omega, rfl, HN7, HL7, H26, HS7, hne7, hB7⟩
                case measure => simp [intOf]; omega
        · obtain rfl : q = LQ := by omega
          have hqL : decide ((q : Int) < (q : Int)) = false := by simp
          have HL3 := Lib.hid (show LL wr w.heap.size g cap vs (basesTo xs n (k + 1)) by
            have := HL.out
            rw [← HQ.out, List.take_length] at this
            rw [E1.out]; exact this)
          have HN3 := Lib.hid (show (basesTo xs n (k + 1)).length = N by
            have := HN.out
            rw [← HQ.out, List.take_length] at this
            rw [E1.out]; exact this)
          clear HN HL
          go_wp2_with fail
          go_roundw
          case rel => exact ⟨k + 1, g, cap, vs, by omega, by go_num, by rw [HN3.out], HL3, HS, hB⟩
          case measure => simp [intOf]; omega
    · obtain rfl : k = n + 1 := by omega
      have hd : decide (((n + 1 : Nat) : Int) ≤ (n : Int)) = false := by simp; omega
      obtain ⟨L, hL⟩ : ∃ L, basesTo xs n (n + 1) = L := ⟨_, rfl⟩
      rw [hL] at HL ⊢
      have HLe := Lib.hid hL
      clear hL
      generalize ((n + 1 : Nat) : Int) = kk at hd ⊢
      go_wp2_with fail
      go_ret2
      exact ⟨g, cap, vs, by rw [HLe.out]; rfl, by rw [HLe.out]; exact HL.out, hB⟩
set_option maxRecDepth 100000 in
set_option maxHeartbeats 1000000 in
theorem specBasesOf_no {base : Nat} {s : Value} {xs : List (Int × Int)} (hl : xs.length ≤ 1048576) (hc : codeL xs ≠ 0) (w : World) (h : OwnsF w base s xs) :
    Calls Try.prog 63 #[s] w fun e w' => e = .returned (.tuple #[.slice none 0 0, .int .i64 (codeL xs)]) ∧ Below w.heap.size w w' := by
  have LC := Lib.hid (l02Code_any hl w h rfl)
  have hne := codeL_ne hc
  obtain ⟨a, cap, rfl, _⟩ := h.cells
  clear h hc
  generalize codeL xs = c at *
  go_enter Try.func63, Try.ntmps63
  go_wp2_with fail
  refine (LC.out).mono ?_
  rintro e w2 ⟨rfl, hb2⟩
  go_wp2
  go_ret2
  exact ⟨rfl, hb2⟩
set_option maxRecDepth 100000 in
set_option maxHeartbeats 1000000 in
theorem implBasesOf_no {base : Nat} {s : Value} {xs : List (Int × Int)} (hl : xs.length ≤ 1048576) (hc : codeL xs ≠ 0) (w : World) (h : OwnsF w base s xs) :
    Calls Try.prog 64 #[s] w fun e w' => e = .returned (.tuple #[.slice none 0 0, .int .i64 (codeL xs)]) ∧ Below w.heap.size w w' := by
  have hne := codeL_ne hc
  obtain ⟨a, cap, rfl, _⟩ := h.cells
  have LC := Lib.hid (listCode_any hl (w.alloc (.cells #[.slice a xs.length cap] 24)) (h.below (bnew _ _)) rfl)
  clear h hc
  generalize codeL xs = c at *
  go_enter Try.func64, Try.ntmps64
  go_wp2_with fail
  refine (LC.out).mono ?_
  rintro e w2 ⟨rfl, hb2⟩
  go_wp2
  go_ret2
  exact ⟨rfl, bthen (bnew _ _) hb2⟩
end Go.Proofs.Ytdgpjpcdifpllaa

/- C1:
  ProjectionOf in both packages. -/
namespace Go.Proofs.Ytdgpjpcdifpllaa
open Go.RowKit

set_option maxRecDepth 100000 in
set_option maxHeartbeats 2000000 in
theorem l01Projection_any {n : Int} {R : Nat} (h0 : 0 ≤ n) (h4 : n ≤ 4) (r0 : 0 < R) (r16 : R ≤ 16) (hR : Hid (rowsN n = (R : Int))) (i : Nat) (hi16 : i < 16) (w : World) :
    Calls Try.prog 197 #[.int .i64 n, .int .i64 (i : Int)] w fun e w' => e = .returned (.agg #[.int .i64 n, .int .i64 (sumN (fun r => bitN r i) R : Int)]) ∧ Below w.heap.size w w' := by
  obtain ⟨i0, hi, hz0, hz1, hz2⟩ := info_parts infoI
  go_enter Try.func197, Try.ntmps197
  go_wp2
  obtain ⟨W1, hW1⟩ : ∃ W1, w.alloc (.cells #[.int .i64 0, .int .i64 0] 23) = W1 := ⟨_, rfl⟩
  have hs1 : W1.heap.size = w.heap.size + 1 := by rw [← hW1]; simp
  have c00 : W1.cell? ⟨w.heap.size, 0, none⟩ = some (.int .i64 0) := by rw [← hW1]; simp [go_sem]
  have c01 : W1.cell? ⟨w.heap.size, 1, none⟩ = some (.int .i64 0) := by rw [← hW1]; simp [go_sem]
  have f00 : W1.frozen? ⟨w.heap.size, 0, none⟩ = false := by rw [← hW1]; simp [go_sem]
  have f01 : W1.frozen? ⟨w.heap.size, 1, none⟩ = false := by rw [← hW1]; simp [go_sem]
  have hB1 : Below w.heap.size w W1 := by rw [← hW1]; exact bnew _ _
  rw [hW1]
  clear hW1
  go_loopw [5, 6] (fun s i' wr => ∃ k : Nat, k ≤ R ∧ i' = .int .i64 k ∧ wr.ownsRow W1.heap.size 2 1 s k (valsN (fun r => bitN r i) k) ∧ Below W1.heap.size W1 wr)
    (fun _ i' _ => R - (intOf i').toNat)
  case atStart => exact ⟨0, Nat.zero_le _, rfl, by rw [← hs1]; exact World.ownsRow_lit W1 #[] 0 (Nat.le_refl _) (by decide) rfl, bnew _ _⟩
  case round =>
    obtain ⟨k, hk, rfl, hown, hN⟩ := hrel
    have hsz := hN.size
    have hE := Lib.hid hs1
    clear hs1
    by_cases hlt : k < R
    · have E := digit_eq k i (by omega)
      go_wp2_with (first
        | (go_at_call 106; refine (l01Rows_is h0 h4 hR _).mono ?_; rintro e w' ⟨rfl, rfl⟩)
        | (at_builtin; refine wpList_append_own _ rfl _ _ 55 rfl W1.heap.size 2 i0 (.int .i64 0) 1 8 Try.underlying55 hi hz0 hz1 hz2 rfl (by decide) _ _ _ rfl (hown.alloc _) ⟨wr.heap.size, 0, none⟩ 1 1 [.int .i64 (bitN k i : Int)] rfl rfl (cell_one_new _ _ _) (one_cell_int _) (by unfold maxLen; omega) (by omega) (by simp; omega) ?_))
      intro v' w1 hown' hgrow _
      have hN' := (balloc hN (.cells #[.int .i64 (bitN k i : Int)] 2)).grown hgrow (by simp; omega) (fun j e => (hown.lt j e).1)
      clear hgrow hown hN E
      go_wp2
      go_roundw
      case rel => exact ⟨k + 1, by omega, by go_num, by rw [valsN_succ]; exact hown', hN'⟩
      case measure => simp [intOf]; omega
    · obtain rfl : k = R := by omega
      obtain ⟨g, cap, rfl, hg, hc⟩ := owned_slice r0 hown
      have d00 := (hN.cell (p := ⟨w.heap.size, 0, none⟩) (by rw [hE.out]; simp)).trans c00
      have d01 := (hN.cell (p := ⟨w.heap.size, 1, none⟩) (by rw [hE.out]; simp)).trans c01
      have g00 := (hN.frozen (p := ⟨w.heap.size, 0, none⟩) (by rw [hE.out]; simp)).trans f00
      have g01 := (hN.frozen (p := ⟨w.heap.size, 1, none⟩) (by rw [hE.out]; simp)).trans f01
      have hB2 := bthen hB1 hN
      clear hown hN c00 c01 f00 f01 hB1
      go_wp2_with (first
        | (go_at_call 106; refine (l01Rows_is h0 h4 hR _).mono ?_; rintro e w' ⟨rfl, rfl⟩)
        | (go_at_call 200; refine (l01Of_any h0 h4 r0 r16 hR g cap (fun r => bitN r i) (fun r _ => bitN_le r i) _ hg hc).mono ?_; rintro e w3 ⟨rfl, hb3⟩; have e00 := kc hb3 d00; have e01 := kc hb3 d01; have k00 := kf hb3 d00 g00; have k01 := kf hb3 d01 g01; have hB3 := bthen hB2 hb3))
      exact bodyPost_ret (v := .agg #[.int .i64 n, .int .i64 (sumN (fun r => bitN r i) k : Int)]) (by simp [results, Try.results197, go_sem, e00, e01]) rfl ⟨rfl, (hB3.setCell (p := ⟨w.heap.size, 0, none⟩) (by simp) _).setCell (p := ⟨w.heap.size, 1, none⟩) (by simp) _⟩
set_option maxHeartbeats 400000 in
theorem isVariable_any (n i : Int) (w : World) :
    Calls Try.prog 155 #[.int .i64 n, .int .i64 i] w fun e w' => e = .returned (.bool (inB i 0 (n - 1))) ∧ w = w' := by
  by_cases h1 : 0 ≤ i
  · by_cases h2 : i < n
    · rw [inB_true h1 (by omega)]
      go_enter Try.func155, Try.ntmps155
      go_wp2
      go_ret
      exact ⟨rfl, rfl⟩
    · rw [inB_false (by omega)]
      go_enter Try.func155, Try.ntmps155
      go_wp2
      go_ret
      exact ⟨rfl, rfl⟩
  · rw [inB_false (by omega)]
    go_enter Try.func155, Try.ntmps155
    go_wp2
    go_ret
    exact ⟨rfl, rfl⟩
theorem isVariable_is {n i : Int} {x : Bool} (h : inB i 0 (n - 1) = x) (w : World) :
    Calls Try.prog 155 #[.int .i64 n, .int .i64 i] w fun e w' => e = .returned (.bool x) ∧ w = w' := h ▸ isVariable_any n i w

end Go.Proofs.Ytdgpjpcdifpllaa
