/-
  The texts BL7, BL8, RB, BL11, BL5, BL12, BL13, H0, H9, FBasesOf in one.
-/
import Derived.Test.YtdgpjpcdifpllaaMPBasesOf6
import Derived.OrdersHeld
import Derived.Deep.RegionHeld3
import Derived.Deep.DeepCutAuto
import Derived.Deep.Cut

/- BL7:
  BasesOf: the functions of a list at places (funcsAt of the program). -/
namespace Go.Proofs.Ytdgpjpcdifpllaa
open Go.RowKit
set_option linter.unusedVariables false
set_option linter.unusedSimpArgs false

theorem atPl_take {xs : List (Int × Int)} {r : List Int} {j : Nat} (h : j < r.length) : atPl xs (r.take (j + 1)) = atPl xs (r.take j) ++ [fget xs r[j].toNat] := by
  rw [List.take_succ_eq_append_getElem h, atPl, List.map_append]; rfl
/-- A list of numbers that can be read. -/
theorem owns_read {W : World} {base : Nat} {v : Value} {r : List Int} (h : Owns W base v r) : ∃ a c, v = .slice a r.length c ∧ (r.length = 0 ∨ ∃ g, a = some ⟨g, 0, none⟩ ∧ g < W.heap.size ∧ Hid (∀ j (h : j < r.length), W.cell? ⟨g, j, none⟩ = some (.int .i64 r[j]))) := by
  have h0 := h
  obtain ⟨_, ⟨rfl, e⟩ | ⟨g, cap, cur, rfl, hb, hg, _⟩⟩ := h
  · exact ⟨none, 0, by rw [e], .inl e⟩
  · refine ⟨_, _, rfl, .inr ⟨g, rfl, (Array.getElem?_eq_some_iff.1 hg).1, Lib.hid fun j hj => ?_⟩⟩
    unfold Owns at h0
    rw [World.ownsRow.cellAt h0 j (by omega)]
    simp [ints, hj]

set_option maxRecDepth 100000 in
set_option maxHeartbeats 8000000 in
theorem funcsAt_any {base b2 : Nat} {s v : Value} {xs : List (Int × Int)} {r : List Int} (h8 : xs.length ≤ 8) (hr8 : r.length ≤ 8) (hr : ∀ x ∈ r, ∃ y : Nat, x = (y : Int) ∧ y < xs.length) (w : World) (h : OwnsF w base s xs) (hv : Owns w b2 v r) :
    Calls Try.prog 134 #[s, v] w (FListPost w.heap.size (atPl xs r) w) := by
  obtain ⟨i0, hi, hz0, hz1, hz2⟩ := info_parts infoF
  obtain ⟨a1, c1, rfl, r1⟩ := h.cells
  obtain ⟨a2, c2, rfl, r2⟩ := owns_read hv
  have R1 := Lib.hid r1
  have R2 := Lib.hid r2
  have HR := Lib.hid hr
  obtain ⟨n, hn⟩ : ∃ n, xs.length = n := ⟨_, rfl⟩
  obtain ⟨m, hm⟩ : ∃ m, r.length = m := ⟨_, rfl⟩
  have HN := Lib.hid hn
  have HM := Lib.hid hm
  rw [hn] at h8 ⊢
  rw [hm] at hr8 ⊢
  clear r1 r2 hr hn hm h hv
  go_enter Try.func134, Try.ntmps134
  go_wp2
  go_loopw [5, 10] (fun s' i' wr => ∃ (i : Nat) (sv : Value), i ≤ m ∧ i' = .int .i64 i ∧ s' = sv ∧ Hid (OwnsF wr w.heap.size sv (atPl xs (r.take i))) ∧ Below w.heap.size w wr) (fun _ i' _ => m - (intOf i').toNat)
  case atStart => exact ⟨0, _, Nat.zero_le _, rfl, rfl, Lib.hid (World.ownsRow_nil _ _ _ _), Below.refl _ _⟩
  case round =>
    obtain ⟨i, sv, him, rfl, rfl, HO, hB⟩ := hrel
    by_cases hlt : i < m
    · have hir : i < r.length := by rw [HM.out]; exact hlt
      obtain ⟨y, ey, hy⟩ := HR.out _ (List.getElem_mem hir)
      obtain ⟨g2, rfl, hg2, hc2⟩ := (R2.out).resolve_left (by omega)
      obtain ⟨g1, rfl, hg1, hc1⟩ := (R1.out).resolve_left (by omega)
      have d2 := kc hB (hc2.out i hir)
      rw [ey] at d2
      obtain ⟨u0, u1⟩ := hc1.out y hy
      have d0 := kc hB u0
      have d1 := kc hB u1
      have HT := Lib.hid (show atPl xs (r.take (i + 1)) = atPl xs (r.take i) ++ [((fget xs y).1, (fget xs y).2)] by rw [atPl_take hir, ey]; rfl)
      have hlen : (atPl xs (r.take i)).length = i := by rw [atPl_len, List.length_take]; omega
      rw [HN.out] at hy
      generalize (fget xs y).1 = p at d0 HT
      generalize (fget xs y).2 = q at d1 HT
      have hO : wr.ownsRow w.heap.size 23 2 u5 i (fcells (atPl xs (r.take i))) := by
        have := HO.out
        unfold OwnsF at this
        rwa [hlen] at this
      have hwr := hB.size
      have k1 : (0 : Int) ≤ (i : Int) := by omega
      have k2 : (i : Int) < (m : Int) := by omega
      have k3 : (0 : Int) ≤ (y : Int) := by omega
      have k4 : (y : Int) < (n : Int) := by omega
      have hg1' : g1 < wr.heap.size := by omega
      clear u0 u1 hc1 hc2 HO ey
      go_wp2_with (at_builtin; refine wpList_append_own _ rfl _ _ 24 rfl w.heap.size 23 i0 (.agg #[.int .i64 0, .int .i64 0]) 2 16 Try.underlying24 hi hz0 hz1 hz2 rfl (by decide) _ _ _ rfl (hO.alloc _) ⟨wr.heap.size, 0, none⟩ 1 1 [.int .i64 p, .int .i64 q] rfl rfl (cell_two_new _ _ _ _) (one_cell_two _ _) (by unfold maxLen; omega) (by omega) (by simp; omega) ?_)
      intro v' w2 hO2 hg _
      have hB2 := (balloc hB (.cells #[.int .i64 p, .int .i64 q] 23)).grown hg (by simp; omega) (fun j e => (hO.lt j e).1)
      have HO2 : Hid (OwnsF w2 w.heap.size v' (atPl xs (r.take (i + 1)))) := Lib.hid (by
        rw [HT.out]
        refine OwnsF.snoc ?_
        rw [hlen]; exact hO2)
      clear hO hO2 hg hB d0 d1 d2 HT
      go_wp2
      go_roundw
      case rel => exact ⟨i + 1, _, by omega, by go_num, rfl, HO2, hB2⟩
      case measure => simp [intOf]; omega
    · obtain rfl : i = m := by omega
      have HE := Lib.hid (show r.take i = r by rw [← HM.out]; exact List.take_length)
      rw [HE.out] at HO
      go_wp2
      go_ret
      exact ⟨_, rfl, HO.out, hB⟩
end Go.Proofs.Ytdgpjpcdifpllaa

/- BL8:
  BasesOf: isBase of the program where the map is of a longer list. -/
namespace Go.Proofs.Ytdgpjpcdifpllaa
open Go.RowKit
open Go.Maps (Keyed)
set_option linter.unusedVariables false
set_option linter.unusedSimpArgs false

theorem AreF.at {xs : List (Int × Int)} {r : List Int} (h : AreF xs) (hr : ∀ x ∈ r, ∃ y : Nat, x = (y : Int) ∧ y < xs.length) : AreF (atPl xs r) := fun i hi => by
  have hi' : i < r.length := by rw [← atPl_len xs r]; exact hi
  obtain ⟨y, e, hy⟩ := hr _ (List.getElem_mem hi')
  rw [atPl_fget _ _ _ hi', e]
  exact h y hy
theorem MapOk.at {xs : List (Int × Int)} {r : List Int} {D : DU} (h : MapOk D xs xs.length) (hr : ∀ x ∈ r, ∃ y : Nat, x = (y : Int) ∧ y < xs.length) : MapOk D (atPl xs r) (atPl xs r).length := ⟨h.1, fun i hi => by
  have hi' : i < r.length := by rw [← atPl_len xs r]; exact hi
  obtain ⟨y, e, hy⟩ := hr _ (List.getElem_mem hi')
  rw [atPl_fget _ _ _ hi', e]
  exact h.2.1 y hy, h.2.2⟩

theorem common_ofM {xs : List (Int × Int)} (hl : xs.length ≤ 1048576) (hx : AreF xs) {b : Nat} {D : DU} {nm : Nat} {base : Nat} {s : Value} (w : World) (h : OwnsF w base s xs) (hown : w.ownsMap Try.prog 23 (plainElem Try.prog 2) b nm D) (hD : MapOk D xs xs.length) :
    Calls Try.prog 234 #[.map (some b), s] w fun e w' => e = .returned (.int .i64 (comTo xs xs.length : Int)) ∧ Below w.heap.size w w' :=
  commonClasses_any hl b _ _ D xs w h hown hD (fun i hi => ⟨hx i hi, hD.2.1 i hi⟩)

theorem common_eraseM {xs : List (Int × Int)} (h8 : xs.length ≤ 8) (hx : AreF xs) (i : Nat) (hi : i < xs.length) {b : Nat} {D : DU} {nm : Nat} {base : Nat} {s : Value} (w : World) (h : OwnsF w base s (xs.eraseIdx i)) (hown : w.ownsMap Try.prog 23 (plainElem Try.prog 2) b nm D) (hD : MapOk D xs xs.length) :
    Calls Try.prog 234 #[.map (some b), s] w fun e w' => e = .returned (.int .i64 (comTo (xs.eraseIdx i) (xs.length - 1) : Int)) ∧ Below w.heap.size w w' := by
  have hl : (xs.eraseIdx i).length = xs.length - 1 := List.length_eraseIdx_of_lt hi
  have := commonClasses_any (xs := xs.eraseIdx i) (by omega) b _ _ D xs w h hown hD (fun j hj => by
    rw [fget_erase]
    split
    · exact ⟨hx j (by omega), hD.2.1 j (by omega)⟩
    · exact ⟨hx (j + 1) (by omega), hD.2.1 (j + 1) (by omega)⟩)
  rw [hl] at this
  exact this

set_option maxRecDepth 100000 in
set_option maxHeartbeats 4000000 in
theorem isBaseM_any {base : Nat} {s : Value} {xs : List (Int × Int)} (h8 : xs.length ≤ 8) (hx : AreF xs) {b : Nat} {D : DU} {nm : Nat} (w : World) (h : OwnsF w base s xs) (hown : w.ownsMap Try.prog 23 (plainElem Try.prog 2) b nm D) (hD : MapOk D xs xs.length) {B : Bool} (hB : isBaseB xs = B) :
    Calls Try.prog 133 #[.map (some b), s] w fun e w' => e = .returned (.bool B) ∧ Below w.heap.size w w' := by
  have hl : xs.length ≤ 1048576 := by omega
  have HX := Lib.hid hx
  have HS := Lib.hid h
  have HM := Lib.hid hown
  have HD := Lib.hid hD
  have HB := Lib.hid (show ((comTo xs xs.length : Int) == 0 && fewTo xs xs.length) = B from hB)
  obtain ⟨a, cap, rfl, _⟩ := h.cells
  have IC := Lib.hid (isComplete_any b w (common_ofM hl hx w h hown hD) h)
  clear h hx hB hown hD
  cases hc : ((comTo xs xs.length : Int) == 0)
  · rw [hc] at HB IC
    obtain rfl : B = false := HB.out.symm
    go_enter Try.func133, Try.ntmps133
    go_wp2_with (go_at_call 180; refine (IC.out).mono ?_; rintro e w2 ⟨rfl, hb2⟩)
    go_ret
    exact ⟨rfl, hb2⟩
  · rw [hc] at HB IC
    rw [Bool.true_and] at HB
    go_enter Try.func133, Try.ntmps133
    go_wp2_with (go_at_call 180; refine (IC.out).mono ?_; rintro e w2 ⟨rfl, hb2⟩)
    replace HS := Lib.hid (HS.out.below hb2)
    replace HM := Lib.hid (owns_map_below HM.out hb2)
    clear IC
    go_loopw [12] (fun i' wr => ∃ i : Nat, i ≤ xs.length ∧ i' = .int .i64 i ∧ fewTo xs i = true ∧ Below w2.heap.size w2 wr) (fun i' _ => xs.length - (intOf i').toNat)
    case atStart => exact ⟨0, Nat.zero_le _, rfl, rfl, Below.refl _ _⟩
    case round =>
      obtain ⟨i, hi, rfl, hnd, hN⟩ := hrel
      by_cases hlt : i < xs.length
      · have WP := Lib.hid (withoutPlace_any h8 i hlt wr (HS.out.below hN))
        have HND := Lib.hid hnd
        clear hnd
        cases hz : ((comTo (xs.eraseIdx i) (xs.length - 1) : Int) == 0)
        · have hnd2 := Lib.hid (show fewTo xs (i + 1) = true by rw [fewTo_succ, HND.out, hz]; rfl)
          have HZ := Lib.hid hz
          clear hz
          go_wp2_with (first
            | (go_at_call 181; refine (WP.out).mono ?_; rintro e w3 ⟨v, b3, rfl, hs3, hb3⟩; have IC := isComplete_any b w3 (common_eraseM h8 HX.out i hlt w3 hs3 (owns_map_below (owns_map_below HM.out hN) hb3) HD.out) hs3; rw [HZ.out] at IC; replace IC := Lib.hid IC; clear hs3)
            | (go_at_call 180; refine (IC.out).mono ?_; rintro e w4 ⟨rfl, hb4⟩))
          go_roundw
          case rel => exact ⟨i + 1, by omega, by go_num, hnd2.out, bthen (bthen hN hb3) hb4⟩
          case measure => simp [intOf]; omega
        · have hf := Lib.hid (fewTo_false hlt hz)
          have HZ := Lib.hid hz
          clear hz
          go_wp2_with (first
            | (go_at_call 181; refine (WP.out).mono ?_; rintro e w3 ⟨v, b3, rfl, hs3, hb3⟩; have IC := isComplete_any b w3 (common_eraseM h8 HX.out i hlt w3 hs3 (owns_map_below (owns_map_below HM.out hN) hb3) HD.out) hs3; rw [HZ.out] at IC; replace IC := Lib.hid IC; clear hs3)
            | (go_at_call 180; refine (IC.out).mono ?_; rintro e w4 ⟨rfl, hb4⟩))
          go_ret
          exact ⟨by rw [← HB.out, hf.out]; rfl, bthen hb2 (bthen (bthen hN hb3) hb4)⟩
      · obtain rfl : i = xs.length := by omega
        go_wp2
        go_ret
        exact ⟨by rw [← HB.out, hnd]; rfl, bthen hb2 hN⟩

end Go.Proofs.Ytdgpjpcdifpllaa

/- RB:
  A region that draws its order inside a round, none of whose operations is a defer, walked by the plain calculus (so that loads may be taken first: the laws of OrdersHeld). -/
namespace Go.Proofs.Ytdgpjpcdifpllaa
open Go Go.RowKit

theorem upon_wide {P : Program} {o : Oper} {a : Act} {K : Act → World → Prop} {Q : Exit → Act → World → Prop} {n : Nat} (hn : 1 ≤ n) : ∀ r, o.upon P a K Q r → o.uponIn Fence.wide n P a K Q r := by
  intro r h
  cases r with
  | ok x w' =>
    cases x with
    | value v => exact h
    | skip => exact h
    | defer d => exact h
    | enter f args =>
      refine ⟨fun _ => hn, CallsIn.mono (callsIn_wide.2 h) fun e w'' he => ?_⟩
      cases e <;> exact he
    | row row args => exact ⟨fun _ => hn, fun c cs _ => let ⟨v, w', r, s⟩ := h c cs; ⟨v, w', r, stepsIn_wide.2 s⟩⟩
    | _ => exact h.elim
  | halt x w' => cases x <;> first | exact h | exact h.elim

theorem wpOp_wide {P : Program} {ops : Array Oper} {Q : Exit → Act → World → Prop} {i : Nat} {K : Act → World → Prop} {a : Act} {w : World} {n : Nat} (hn : 1 ≤ n) (hL : ¬ LetsOut Q) (h : wpOp P ops Q i K a w) : wpOpIn Fence.wide n P ops Q i K a w := by
  unfold wpOp at h
  unfold wpOpIn
  cases ho : ops[i]? with
  | none => simp only [ho] at h ⊢; exact h
  | some o =>
    simp only [ho] at h ⊢
    split
    · rename_i hw
      rw [if_pos hw] at h
      rcases h with h | ⟨_, h⟩
      · exact ⟨fun _ _ => trivial, upon_wide hn _ h⟩
      · exact absurd h hL
    · rename_i hw
      rw [if_neg hw] at h
      exact ⟨fun _ _ => trivial, h⟩

theorem wpAny_wide {P : Program} {md : Region.Mode} {ops : Array Oper} {Q : Exit → Act → World → Prop} {n : Nat} (hn : 1 ≤ n) (hL : ¬ LetsOut Q) : ∀ (fuel : Nat) (listed : Array Bool) (a : Act) (w : World),
    wpAny P md ops Q fuel listed a w → wpAnyIn Fence.wide n P md ops Q fuel listed a w
  | 0, _, _, _, h => h
  | fuel + 1, _, _, _, h => ⟨h.1, fun i hi => wpOp_wide hn hL (wpOp_mono (fun a w => wpAny_wide hn hL fuel _ a w) (h.2 i hi))⟩

/-- **The bridge.** -/
theorem region_round {P : Program} {id l n : Nat} {ops : Array Oper} {Q : Exit → Act → World → Prop} {a : Act} {w : World} (S : World → Prop) (hm : P.follows .mixedOrders = true) (hnd : noDefer ops = true) (hn : 1 ≤ n) (hL : ¬ LetsOut Q)
    (h : wpAnyH P .any ops Q S ops.size (Array.replicate ops.size false) a w.drew) : (Code.region id ops true).wpIn (Fence.wide.inRound l) n P Q a w :=
  wpIn_region_any hm (wpAnyIn_round (F := Fence.wide) l hnd _ _ _ _ (wpAny_wide hn hL _ _ _ _ (wpAny_of_held _ _ _ _ h)))
end Go.Proofs.Ytdgpjpcdifpllaa

/- BL11:
  BasesOf of the program. -/
namespace Go.Proofs.Ytdgpjpcdifpllaa
open Go.RowKit Go.Shelf
attribute [local go_sem] Oper.semAt_some
set_option linter.unusedVariables false
set_option linter.unusedSimpArgs false

/-- The bases among the parts handed out so far. -/
def selB (xs : List (Int × Int)) (pre : List PartV) : List PartV := pre.filter fun x => isBaseB (atPl xs x.2)
theorem selB_yes {xs : List (Int × Int)} {pre : List PartV} {x : PartV} (h : isBaseB (atPl xs x.2) = true) : selB xs (pre ++ [x]) = selB xs pre ++ [x] := by simp [selB, h]
theorem selB_no {xs : List (Int × Int)} {pre : List PartV} {x : PartV} (h : isBaseB (atPl xs x.2) = false) : selB xs (pre ++ [x]) = selB xs pre := by simp [selB, h]
/-- The rows of a list of lists, each in a block of its own. -/
structure RowsB (base : Nat) (L : List PartV) (W : World) : Prop where
  row : ∀ x ∈ L, (∃ b c, x.1 = .slice (some ⟨b, 0, none⟩) x.2.length c) ∧ Owns W base x.1 x.2
  ap : L.Pairwise fun x y => x.1.ownBlock ≠ y.1.ownBlock
/-- What is held while the parts are ranged over. -/
structure BO (xs : List (Int × Int)) (NB base : Nat) (Wm : World) (pre : List PartV) (W : World) : Prop where
  tab : ∃ v, Boxed W NB 91 v ∧ W.ownsRow base 55 1 v (selB xs pre).length ((selB xs pre).map (·.1))
  rows : RowsB base (selB xs pre) W
  below : Below Wm.heap.size Wm W

theorem row_keep {W W' : World} {row : Option Nat} {base : Nat} {e : TypeId} {size : Nat} {v : Value} {n : Nat} {xs : List Value} (h : W.ownsRow base e size v n xs) (hg : W.grownBy W' row) (hr : ∀ r, row = some r → ∃ o : Obj, W.heap[r]? = some o ∧ o.isCells = false) : W'.ownsRow base e size v n xs := by
  refine World.ownsRow.kept h hg ?_
  cases hv : v.ownBlock with
  | none => exact .inl rfl
  | some b =>
    refine .inr fun e => ?_
    obtain ⟨o, ho, hc⟩ := hr b e.symm
    obtain ⟨_, cur, e2⟩ := row_objP h hv
    rw [e2] at ho
    cases ho
    cases hc
theorem owns_belowB {W W' : World} {base : Nat} {e : TypeId} {size : Nat} {v : Value} {n : Nat} {xs : List Value} (h : W.ownsRow base e size v n xs) (hb : Below W.heap.size W W') : W'.ownsRow base e size v n xs := by
  obtain ⟨h1, h2 | ⟨g, cap, cur, e1, e2, e3, r⟩⟩ := h
  · exact ⟨h1, .inl h2⟩
  · exact ⟨h1, .inr ⟨g, cap, cur, e1, e2, (hb.block g (Array.getElem?_eq_some_iff.1 e3).1).trans e3, r⟩⟩
theorem RowsB.below {base : Nat} {L : List PartV} {W W' : World} (h : RowsB base L W) (hb : Below W.heap.size W W') : RowsB base L W' := ⟨fun x hx => ⟨(h.row x hx).1, (h.row x hx).2.below hb⟩, h.ap⟩
theorem bo_own {xs : List (Int × Int)} {NB base K : Nat} {Wm : World} (hK : Wm.heap.size ≤ K) : OwnFrom K (BO xs NB base Wm) := fun pre W W' row h hg hr => by
  obtain ⟨⟨v, hv, ht⟩, hrow, hb⟩ := h
  exact ⟨⟨v, boxed_cells hv hg fun r e => (hr r e).2, row_keep ht hg fun r e => (hr r e).2⟩, ⟨fun x hx => ⟨(hrow.row x hx).1, row_keep (hrow.row x hx).2 hg fun r e => (hr r e).2⟩, hrow.ap⟩, hb.grown hg hb.size fun r e => Nat.le_trans hK (hr r e).1⟩
theorem RowsB.snoc {base : Nat} {L : List PartV} {W : World} {x : PartV} (h : RowsB base L W) (hx : (∃ b c, x.1 = .slice (some ⟨b, 0, none⟩) x.2.length c) ∧ Owns W base x.1 x.2) (hap : ∀ y ∈ L, y.1.ownBlock ≠ x.1.ownBlock) : RowsB base (L ++ [x]) W := by
  refine ⟨fun y hy => ?_, List.pairwise_append.2 ⟨h.ap, List.pairwise_singleton _ _, fun y hy z hz => ?_⟩⟩
  · rcases List.mem_append.1 hy with hy | hy
    · exact h.row y hy
    · simp at hy; subst hy; exact hx
  · simp at hz; subst hz; exact hap y hy
theorem RowsB.grown {base b2 : Nat} {L : List PartV} {W W' : World} {t : TypeId} {k n : Nat} {v : Value} {ys : List Value} (h : RowsB base L W) (hg : W.grownBy W' v.ownBlock) (ht : W.ownsRow b2 t k v n ys) (hne : 2 ≠ t) : RowsB base L W' :=
  ⟨fun x hx => ⟨(h.row x hx).1, World.ownsRow.kept (h.row x hx).2 hg (rows_apart (h.row x hx).2 ht hne)⟩, h.ap⟩
theorem RowsB.setBox {base NB : Nat} {L : List PartV} {W : World} (h : RowsB base L W) (hb : NB < base) (u : Value) : RowsB base L (W.setCell ⟨NB, 0, none⟩ u) :=
  ⟨fun x hx => ⟨(h.row x hx).1, World.ownsRow.kept (h.row x hx).2 (grownBy_setCell' W NB u) (by
    cases hv : x.1.ownBlock with
    | none => exact .inl rfl
    | some bq => exact .inr fun e => by have := (World.ownsRow.lt (h.row x hx).2 bq hv).1; cases e; omega)⟩, h.ap⟩
theorem ownsRow_monoB {W : World} {base b2 : Nat} {e : TypeId} {size : Nat} {v : Value} {n : Nat} {xs : List Value} (h : W.ownsRow base e size v n xs) (hb : b2 ≤ base) : W.ownsRow b2 e size v n xs := by
  obtain ⟨h1, h2 | ⟨g, cap, cur, e1, e2, r⟩⟩ := h
  · exact ⟨h1, .inl h2⟩
  · exact ⟨h1, .inr ⟨g, cap, cur, e1, Nat.le_trans hb e2, r⟩⟩
theorem RowsB.mono {base b2 : Nat} {L : List PartV} {W : World} (h : RowsB base L W) (hb : b2 ≤ base) : RowsB b2 L W := ⟨fun x hx => ⟨(h.row x hx).1, (h.row x hx).2.mono hb⟩, h.ap⟩
theorem basesTo_is {xs : List (Int × Int)} (h8 : xs.length ≤ 8) : ∀ s, (partsAll xs.length s).filter (fun r => isBaseB (atPl xs r)) = basesTo xs xs.length s
  | 0 => rfl
  | s + 1 => by
    rw [partsAll_succ, List.filter_append, basesTo_is h8 s, basesTo_succ]
    congr 1
    refine List.filter_congr fun r hr => ?_
    rw [baseM_at h8 hr]
theorem step_heldB {W w' W0 : World} {a b : Addr} {u v : Value} (hb : Below W.heap.size W w') (h : (W.cell? a = some u ∧ W.cell? b = some v) ∧ Below W0.heap.size W0 W) : (w'.cell? a = some u ∧ w'.cell? b = some v) ∧ Below W0.heap.size W0 w' :=
  ⟨⟨kc hb h.1.1, kc hb h.1.2⟩, bthen h.2 hb⟩
theorem partsAll_len (N : Nat) : ∀ s, (partsAll N s).length ≤ s * 2 ^ N
  | 0 => by simp [partsAll]
  | s + 1 => by
    rw [partsAll_succ, List.length_append, Nat.succ_mul]
    have h1 := partsAll_len N s
    have h2 := partsN_len N s 0
    rw [Nat.sub_zero] at h2
    omega
theorem base_none {xs : List (Int × Int)} : isBaseB (atPl xs []) = false := by
  unfold isBaseB
  rfl
theorem cell_one_newB (W : World) (a : Value) (t : TypeId) : ∀ (j : Nat) (u : Value), [a][j]? = some u → (W.alloc (.cells #[a] t)).cell? ((⟨W.heap.size, 0, none⟩ : Addr).add j) = some u := by
  intro j u h
  match j, h with
  | 0, h => simp at h; subst h; simp [go_sem, Addr.add]
theorem one_cell_sl (a : Option Addr) (n c : Nat) : ∀ u ∈ [Value.slice a n c], u.oneCell' = true := by
  intro u hu
  simp at hu
  subst hu
  rfl

set_option maxRecDepth 100000 in
set_option maxHeartbeats 8000000 in
theorem implBasesOf_yes {base : Nat} {s : Value} {xs : List (Int × Int)} (hc : codeL xs = 0) (w : World) (h : OwnsF w base s xs) :
    Calls Try.prog 64 #[s] w fun e w' => ∃ v L, e = .returned (.tuple #[v, .int .i64 0]) ∧ L.map (·.2) = basesTo xs xs.length (xs.length + 1) ∧ w'.ownsRow w.heap.size 55 1 v L.length (L.map (·.1)) ∧ RowsB w.heap.size L w' ∧ Below w.heap.size w w' := by
  obtain ⟨hx, h8⟩ := codeL_ok hc
  have hl : xs.length ≤ 1048576 := by omega
  have LC := Lib.hid (fun W (hW : Below w.heap.size w W) => listCode_any hl W (h.below hW) hc)
  have HX := Lib.hid hx
  have HS := Lib.hid h
  obtain ⟨a, cap, rfl, _⟩ := h.cells
  have hmx : Try.prog.follows .mixedOrders = true := by kernel_rfl
  clear h hc hx
  refine (callsIn_wide (n := 3)).1 ?_
  refine callsIn_of_wp_marks Try.func64 rfl trivial ?_ rfl
  simp only [Try.ntmps64, List.size_toArray, List.length_cons, List.length_nil, Nat.reduceAdd, Nat.reduceSub, Array.replicate_succ, Array.replicate_zero, List.push_toArray, List.append_toArray, List.nil_append, List.cons_append]
  have c1 : (w.alloc (.cells #[.slice a xs.length cap] 24)).cell? ⟨w.heap.size, 0, none⟩ = some (.slice a xs.length cap) := by simp [go_sem]
  gi_wp2_with (first
    | (refine ⟨trivial, ?_⟩; gi_at_call 82; refine (callsIn_wide.2 (LC.out _ (bnew _ _))).mono ?_; rintro e w2 ⟨rfl, hb2⟩; have c2 := kc hb2 c1; replace HS := Lib.hid ((HS.out.below (bnew _ _)).below hb2))
    | (refine ⟨trivial, ?_⟩; gi_at_call 131; refine (callsIn_wide.2 (classSetsOf_any hl HX.out _ HS.out)).mono ?_; rintro e w3 ⟨b, D, rfl, hown, hD, hb3⟩; have c3 := kc hb3 c2; have c4 := kc (bnew w3 (.cells #[.map (some b)] 171)) c3; have c5 := kc (bnew _ (.cells #[.slice none 0 0] 91)) c4)
    | (refine ⟨trivial, ?_⟩; gi_at_call 132; refine (callsIn_wide.2 (partsOf_any _ _)).mono ?_; rintro e w' ⟨rfl, rfl⟩))
  obtain ⟨W1, hW1⟩ : ∃ W1, (((w3.alloc (.cells #[.map (some b)] 171)).alloc (.cells #[.slice none 0 0] 91)).alloc (.cells #[.int .i64 (xs.length : Int)] 2)) = W1 := ⟨_, rfl⟩
  have s1 : W1.heap.size = w3.heap.size + 3 := by rw [← hW1]; simp
  have hB1 : Below w3.heap.size w3 W1 := by rw [← hW1]; exact balloc (balloc (bnew _ _) _) _
  have bm : Boxed W1 w3.heap.size 171 (.map (some b)) := by rw [← hW1]; exact ((Boxed.new _ _ _).alloc _).alloc _
  have bx : Boxed W1 (w3.heap.size + 1) 91 (.slice none 0 0) := by
    rw [← hW1]
    have := (Boxed.new (w3.alloc (.cells #[.map (some b)] 171)) 91 (.slice none 0 0)).alloc (.cells #[.int .i64 (xs.length : Int)] 2)
    simpa using this
  have bl : Boxed W1 (w3.heap.size + 1 + 1) 2 (.int .i64 (xs.length : Int)) := by
    rw [← hW1]
    have := Boxed.new ((w3.alloc (.cells #[.map (some b)] 171)).alloc (.cells #[.slice none 0 0] 91)) 2 (.int .i64 (xs.length : Int))
    simpa using this
  try rw [hW1]
  have hS3 : Hid (OwnsF w3 base (.slice a xs.length cap) xs) := Lib.hid (HS.out.below hb3)
  have hb03 : Below w.heap.size w w3 := bthen (bthen (bnew _ _) hb2) hb3
  have HOWN := Lib.hid hown
  have HDM := Lib.hid hD
  have hl3 : w.heap.size < w3.heap.size := cell_lt c3
  clear hW1 c1 c2 c4 c5 hown hD hb2 hb3 HS LC
  refine wpIn_rangeFunc_O (α := PartV) (Vis := VisP (partsAll xs.length (xs.length + 1))) (τ := 55) rfl (by omega) (T := fun q => q = w3.heap.size + 1 + 1 ∨ W1.heap.size + 2 ≤ q) (gf := 178) (lb := #[.pointer (some ⟨w3.heap.size + 1 + 1, 0, none⟩)]) rfl trivial (enters_of Try.func178 (by kernel_rfl) rfl) (by omega) (fun q hq => .inr hq)
    (partsOf_seq (by decide) (by decide) h8 (3 - 1) (w3.heap.size + 1 + 1) _ W1 (.inl rfl) bl)
    (fun K x => visP_own _ _ K x) (Below.refl _ _) (fun _ => rfl)
    (fun pre W => BO xs (w3.heap.size + 1) (w3.heap.size + 3) w3 pre W ∧ Boxed W w3.heap.size 171 (.map (some b)))
    (fun _ _ _ => False)
    (OwnFrom.and (bo_own (by omega)) (fun _ _ _ _ h hg hr => boxed_cells h hg fun r e => (hr r e).2))
    (fun _ _ _ _ _ h _ _ => h)
    ⟨⟨⟨_, bx, World.ownsRow_nil _ _ _ _⟩, ⟨fun x h => by simp [selB] at h, by simp [selB]⟩, hB1⟩, bm⟩
    (fun z => { tmps := #[.slice a xs.length cap, .pointer (some ⟨w.heap.size, 0, none⟩), .slice none 0 0, .int .i64 0, .int .i64 0, .pointer (some ⟨w3.heap.size, 0, none⟩), .pointer (some ⟨w3.heap.size + 1, 0, none⟩), z.1, .slice a xs.length cap, .int .i64 0, .int .i64 0, .bool false, undef, .slice a xs.length cap, .map (some b), .slice a xs.length cap, .int .i64 xs.length, .func (.func 178) #[] #[.pointer (some ⟨w3.heap.size + 1 + 1, 0, none⟩)], z.1, undef, undef, undef, undef, undef, undef, undef, undef, undef, undef], defers := [] }) ?assign ?body ?done ?stop
  case assign =>
    intro l' z W K hK
    unfold encP
    gi_wp2
    exact hK
  case body =>
    clear bm bx bl
    rintro l' pre z W0 W ⟨B0, _⟩ ⟨⟨⟨v, hv, htab⟩, hrows, hBm⟩, hmb⟩ hs0 hs hlen ⟨hown, hzl⟩
    obtain ⟨z1, z2⟩ := z
    dsimp only at hown hzl
    obtain ⟨k, hk, hzk⟩ := List.mem_flatMap.1 hzl
    have hk9 : k < xs.length + 1 := by simpa using hk
    have hzp := partsN_mem xs.length k 0 z2 hzk
    have hz8 : z2.length ≤ 8 := by rw [partsN_row _ _ _ _ hzk]; omega
    have FA := Lib.hid (fun V (hV : Below W.heap.size W V) => funcsAt_any (xs := xs) (r := z2) h8 hz8 hzp V ((hS3.out.below hBm).below hV) (hown.below hV))
    have h8' : (atPl xs z2).length ≤ 8 := by rw [atPl_len]; exact hz8
    obtain ⟨bb, hbb⟩ : ∃ bb, isBaseB (atPl xs z2) = bb := ⟨_, rfl⟩
    have IB := Lib.hid (fun V (hV : Below W.heap.size W V) base' s' (ho : OwnsF V base' s' (atPl xs z2)) => isBaseM_any (xs := atPl xs z2) h8' (AreF.at HX.out hzp) (b := b) (D := D) V ho (owns_map_below (owns_map_below HOWN.out hBm) hV) (MapOk.at HDM.out hzp) hbb)
    have q0 := hmb.cell
    have q1 := (hBm.cell (p := ⟨w.heap.size, 0, none⟩) hl3).trans c3
    have HV := Lib.hid hv
    have HT := Lib.hid htab
    have HR := Lib.hid hrows
    have HMB := Lib.hid hmb
    have HZ := Lib.hid hown
    have hbw := hBm.size
    have lNB := hv.lt
    have hcnt : (selB xs pre).length ≤ pre.length := List.length_filter_le _ _
    have hpa := partsAll_len xs.length (xs.length + 1)
    have hp9 : (xs.length + 1) * 2 ^ xs.length ≤ 2304 := by
      have : 2 ^ xs.length ≤ 2 ^ 8 := Nat.pow_le_pow_right (by decide) h8
      have := Nat.mul_le_mul (show xs.length + 1 ≤ 9 by omega) this
      omega
    clear hv htab hrows hmb hown hzk hzl
    gi_wp2
    refine region_round (l := l') (fun W9 => (W9.cell? ⟨w3.heap.size, 0, none⟩ = some (.map (some b)) ∧ W9.cell? ⟨w.heap.size, 0, none⟩ = some (.slice a xs.length cap)) ∧ Below W.heap.size W W9) hmx (by kernel_rfl) (by omega) (by rintro ⟨_, _, h⟩; exact h) ?_
    have hHeld : (W.drew.cell? ⟨w3.heap.size, 0, none⟩ = some (.map (some b)) ∧ W.drew.cell? ⟨w.heap.size, 0, none⟩ = some (.slice a xs.length cap)) ∧ Below W.heap.size W W.drew := ⟨⟨q0, q1⟩, (Below.refl _ _).drew⟩
    change wpAnyH _ _ _ _ _ _ _ _ (World.drew _)
    refine wpAnyH_take (i := 0) (v := ?_) rfl (by kernel_rfl) (by kernel_rfl) (by kernel_rfl) (fun _ _ _ h => h) (Or.inl ⟨by rfl, by intro w hSw; (try dsimp only at hSw); go_simp; try (with_reducible rfl)⟩) (by assumption) ?_
    try simp only [Act.put, List.setIfInBounds_toArray, List.set_cons_zero, List.set_cons_succ, List.getElem_toArray, List.getElem_cons_zero, List.getElem_cons_succ]
    refine wpAnyH_take (i := 1) (v := ?_) rfl (by kernel_rfl) (by kernel_rfl) (by kernel_rfl) (fun _ _ _ h => h) (Or.inl ⟨by rfl, by intro w hSw; (try dsimp only at hSw); go_simp; try (with_reducible rfl)⟩) (by assumption) ?_
    try simp only [Act.put, List.setIfInBounds_toArray, List.set_cons_zero, List.set_cons_succ, List.getElem_toArray, List.getElem_cons_zero, List.getElem_cons_succ]
    refine wpAnyH_take (i := 2) (v := ?_) rfl (by kernel_rfl) (by kernel_rfl) (by kernel_rfl) (fun _ _ _ h => h) (Or.inl ⟨by rfl, by intro w hSw; (try dsimp only at hSw); go_simp; try (with_reducible rfl)⟩) (by assumption) ?_
    try simp only [Act.put, List.setIfInBounds_toArray, List.set_cons_zero, List.set_cons_succ, List.getElem_toArray, List.getElem_cons_zero, List.getElem_cons_succ]
    refine wpAnyH_ready (rs := [3]) (by kernel_rfl) (by simp) ?_
    refine AllReadyH.cons rfl (fun K hK => ?_) AllReadyH.nil
    go_simp
    refine (FA.out _ hHeld.2).mono ?_
    rintro e w5 ⟨s5, rfl, ho5, hb5⟩
    dsimp only
    refine hK _ _ (step_heldB hb5 hHeld) (fun hHeld => ?_)
    clear hK K
    try simp only [Act.put, List.setIfInBounds_toArray, List.set_cons_zero, List.set_cons_succ, List.getElem_toArray, List.getElem_cons_zero, List.getElem_cons_succ]
    refine wpAnyH_ready (rs := [4]) (by kernel_rfl) (by simp) ?_
    refine AllReadyH.cons rfl (fun K hK => ?_) AllReadyH.nil
    go_simp
    refine (IB.out _ hHeld.2 _ _ ho5).mono ?_
    rintro e w6 ⟨rfl, hb6⟩
    dsimp only
    refine hK _ _ (step_heldB hb6 hHeld) (fun hHeld => ?_)
    clear hK K
    try simp only [Act.put, List.setIfInBounds_toArray, List.set_cons_zero, List.set_cons_succ, List.getElem_toArray, List.getElem_cons_zero, List.getElem_cons_succ]
    refine wpAnyH_done (by kernel_rfl) ?_ _
    obtain ⟨_, hb7⟩ := hHeld
    have HB7 := Lib.hid hb7
    clear hb5 ho5 hb6 q0 q1 FA IB
    have hv7 : Boxed w6 (w3.heap.size + 1) 91 v := (hb7.block _ HV.out.lt).trans HV.out
    have ht7 : w6.ownsRow (w3.heap.size + 3) 55 1 v (selB xs pre).length ((selB xs pre).map (·.1)) := owns_belowB HT.out hb7
    have hm7 : Boxed w6 w3.heap.size 171 (.map (some b)) := (hb7.block _ HMB.out.lt).trans HMB.out
    have hr7 : RowsB (w3.heap.size + 3) (selB xs pre) w6 := HR.out.below hb7
    have hz7 : Owns w6 W0.heap.size z1 z2 := HZ.out.below hb7
    have HM7 := Lib.hid hm7
    have HR7 := Lib.hid hr7
    have HZ7 := Lib.hid hz7
    cases bb
    · have hN := selB_no (pre := pre) (x := (z1, z2)) hbb
      gi_wp2
      refine ⟨⟨(kotb HB7.out).from _, Spare.below HB7.out⟩, ⟨⟨v, hv7, ?_⟩, ?_, bthen hBm HB7.out⟩, HM7.out⟩
      · rw [hN]; exact ht7
      · rw [hN]; exact HR7.out
    · have HY := Lib.hid (selB_yes (pre := pre) (x := (z1, z2)) hbb)
      obtain ⟨gz, cz, rfl⟩ : ∃ g c, z1 = .slice (some ⟨g, 0, none⟩) z2.length c := by
        rcases Owns.shape hz7 with ⟨rfl, _⟩ | ⟨_, g, c, rfl, _⟩
        · rw [base_none] at hbb; cases hbb
        · exact ⟨g, c, rfl⟩
      have d7 := hv7.cell
      have HV7 := Lib.hid hv7
      have hs7 := HB7.out.size
      obtain ⟨i0, hi, hz0, hz1, hz2⟩ := info_parts infoSI
      clear hv7 hm7 hr7 hz7
      have hlt := fun bq (h : v.ownBlock = some bq) => World.ownsRow.lt ht7 bq h
      generalize hq : (selB xs pre).length = q at ht7 hcnt
      have HQ := Lib.hid hq
      clear hq
      gi_wp2_with (gi_at_builtin; refine wpListIn_append_own_at _ rfl _ _ 91 rfl (w3.heap.size + 3) 55 i0 (.slice none 0 0) 1 24 Try.underlying91 hi hz0 hz1 hz2 rfl (by decide) _ _ _ rfl (ht7.alloc _) ⟨w6.heap.size, 0, none⟩ 1 1 [.slice (some ⟨gz, 0, none⟩) z2.length cz] rfl rfl (cell_one_newB _ _ _) (one_cell_sl _ _ _) (by unfold maxLen; omega) (by omega) (by simp; omega) ?_; intro v8 w8 ho8 hg8 _ hb8; obtain ⟨g8, cap8, rfl⟩ := ownsRow_succ ho8; have HG8 := Lib.hid hg8; have HX8 := Lib.hid ((HV7.out.alloc (.cells #[.slice (some ⟨gz, 0, none⟩) z2.length cz] 55)).kept hg8 (fun e => by have := (hlt _ e.symm).1; omega)); have d8 := HX8.out.cell; have z8 := HX8.out.frozen; clear hg8)
      have hNB3 : w3.heap.size + 1 < w6.heap.size := HV7.out.lt
      have hta := ht7.alloc (.cells #[.slice (some ⟨gz, 0, none⟩) z2.length cz] 55)
      have hta : World.ownsRow _ _ _ _ _ _ _ := hta
      have sp : Spare 55 (fun q => q = w3.heap.size + 1 + 1 ∨ W1.heap.size + 2 ≤ q) w6 (w8.setCell ⟨w3.heap.size + 1, 0, none⟩ (.slice (some ⟨g8, 0, none⟩) (q + 1) cap8)) :=
        ((Spare.below (bnew w6 (.cells #[.slice (some ⟨gz, 0, none⟩) z2.length cz] 55))).trans (Spare.grown HG8.out fun r hr => .inr (by obtain ⟨_, cur, e⟩ := row_objP hta hr; exact ⟨cur, (0, 0), e⟩))).trans (Spare.grown (grownBy_setCell' _ _ _) fun r e => .inl (by cases e; omega))
      have ko : KeepsOthers w6 (w8.setCell ⟨w3.heap.size + 1, 0, none⟩ (.slice (some ⟨g8, 0, none⟩) (q + 1) cap8)) :=
        ((KeepsOthers.alloc _ _).trans (KeepsOthers.of_grownBy HG8.out fun r o hr ho => by obtain ⟨_, cur, e⟩ := row_objP hta hr; rw [e] at ho; cases ho; rfl)).trans (KeepsOthers.setCell _ _ _)
      have hrow8 : RowsB (w3.heap.size + 3) (selB xs pre ++ [(Value.slice (some ⟨gz, 0, none⟩) z2.length cz, z2)]) w6 :=
        HR7.out.snoc ⟨⟨gz, cz, rfl⟩, HZ7.out.mono (by omega)⟩ fun y hy => by
          obtain ⟨b0, c0, e0⟩ := (B0.rows.row y hy).1
          have l0 := (World.ownsRow.lt (B0.rows.row y hy).2 b0 (by rw [e0]; rfl)).2
          have lz := (World.ownsRow.lt HZ7.out gz rfl).1
          rw [e0]
          simp only [Value.ownBlock, ne_eq, Option.some.injEq]
          omega
      refine ⟨⟨((kotb HB7.out).trans ko).from _, (Spare.below HB7.out).trans sp⟩, ⟨⟨_, Boxed.set _ HX8.out, ?_⟩, ?_, ?_⟩, ?_⟩
      · rw [HY.out, List.length_append, List.map_append, HQ.out]
        exact World.ownsRow.kept ho8 (grownBy_setCell' _ _ _) (.inr fun e => by have h1 := (World.ownsRow.lt ho8 g8 rfl).1; simp only [Value.ownBlock, Option.some.injEq] at e; omega)
      · rw [HY.out]
        exact ((hrow8.below (bnew _ _)).grown HG8.out hta (by decide)).setBox (by omega) _
      · exact ((balloc (bthen hBm HB7.out) _).grown HG8.out (by simp; omega) fun j e => by have := (hlt j e).1; omega).setCell (p := ⟨w3.heap.size + 1, 0, none⟩) (by show w3.heap.size ≤ w3.heap.size + 1; omega) _
      · have hm9 := (HM7.out.alloc (.cells #[.slice (some ⟨gz, 0, none⟩) z2.length cz] 55)).kept HG8.out (fun e => by have := (hlt _ e.symm).1; omega)
        exact hm9.other (B' := w3.heap.size + 1) (by omega) _
  case done =>
    rintro D2 ys W hD hD2 hys ⟨⟨⟨v, hv, htab⟩, hrows, hBm⟩, hmb⟩ hKd
    have d0 := hv.cell
    have HT := Lib.hid htab
    have HR := Lib.hid hrows
    clear hv htab hrows
    gi_wp2
    have hbw := bthen hb03 hBm
    refine leaves_marks (lo := w.heap.size) [D2] _ (List.pairwise_singleton _ _) (fun E hE => by simp at hE; subst hE; exact ⟨by omega, hKd⟩) hbw.size fun W' hW' => ?_
    refine ⟨.tuple #[v, .int .i64 0], by simp [results, Try.results64, go_sem], v, selB xs ys, rfl, ?_, ?_, ?_, hbw.trans hW'.below⟩
    · rw [← basesTo_is h8, ← hys, selB, List.filter_map]
      rfl
    · exact ownsRow_monoB (hW'.row HT.out) (by omega)
    · exact RowsB.mono ⟨fun x hx => ⟨(HR.out.row x hx).1, hW'.row (HR.out.row x hx).2⟩, HR.out.ap⟩ (by omega)
  case stop =>
    rintro D2 c pre W _ _ _ h _
    exact h.elim
end Go.Proofs.Ytdgpjpcdifpllaa

/- BL5:
  Equal lists of lists of numbers, in the laws. -/
namespace Go.Proofs.Ytdgpjpcdifpllaa
open Go.RowKit
set_option linter.unusedVariables false
set_option linter.unusedSimpArgs false

/-- s is a list of lists in memory that can be read. -/
def AtLL (W : World) (s : Value) (L : List (List Int)) : Prop :=
  ∃ a cap, s = .slice a L.length cap ∧ (L.length = 0 ∨ ∃ g, a = some ⟨g, 0, none⟩ ∧ g < W.heap.size ∧ Hid (∀ k (h : k < L.length), ∃ v b, W.cell? ⟨g, k, none⟩ = some v ∧ Owns W b v L[k]))
theorem AtLL.below {W W' : World} {s : Value} {L : List (List Int)} (h : AtLL W s L) (hb : Below W.heap.size W W') : AtLL W' s L := by
  obtain ⟨a, cap, e, h0 | ⟨g, e2, hg, hr⟩⟩ := h
  · exact ⟨a, cap, e, .inl h0⟩
  · exact ⟨a, cap, e, .inr ⟨g, e2, Nat.lt_of_lt_of_le hg hb.size, Lib.hid fun k hk => by
      obtain ⟨v, b, e3, ho⟩ := hr.out k hk
      exact ⟨v, b, kc hb e3, ho.below hb⟩⟩⟩
theorem LL.at {W : World} {base g cap : Nat} {vs : List Value} {L : List (List Int)} (h : LL W base g cap vs L) : AtLL W (.slice (some ⟨g, 0, none⟩) L.length cap) L :=
  ⟨_, _, rfl, .inr ⟨g, rfl, h.lt, Lib.hid fun k hk => by
    obtain ⟨b, c, e, ho⟩ := h.cell k hk
    exact ⟨_, _, e, ho⟩⟩⟩

set_option maxRecDepth 100000 in
set_option maxHeartbeats 8000000 in
theorem eqInt64SS_same {s1 s2 : Value} {L : List (List Int)} (hl : L.length ≤ 100000000) (hr : ∀ r ∈ L, r.length ≤ 100000000) (w : World) (h1 : AtLL w s1 L) (h2 : AtLL w s2 L) :
    Calls Try.prog 65 #[s1, s2] w fun e w' => e = .returned (.bool true) ∧ Below w.heap.size w w' := by
  obtain ⟨a1, c1, rfl, r1⟩ := h1
  obtain ⟨a2, c2, rfl, r2⟩ := h2
  have R1 := Lib.hid r1
  have R2 := Lib.hid r2
  have HR := Lib.hid hr
  obtain ⟨n, hn⟩ : ∃ n, L.length = n := ⟨_, rfl⟩
  have HN := Lib.hid hn
  rw [hn] at hl ⊢
  clear r1 r2 hr hn
  go_enter Try.func65, Try.ntmps65
  go_wp2
  go_loopw [5] (fun i' wr => ∃ i : Nat, i ≤ n ∧ i' = .int .i64 i ∧ Below w.heap.size w wr) (fun i' _ => n - (intOf i').toNat)
  case atStart => exact ⟨0, Nat.zero_le _, rfl, Below.refl _ _⟩
  case round =>
    obtain ⟨i, hi, rfl, hB⟩ := hrel
    by_cases hlt : i < n
    · have hiL : i < L.length := by rw [HN.out]; exact hlt
      obtain ⟨g1, rfl, hg1, hc1⟩ := (R1.out).resolve_left (by omega)
      obtain ⟨g2, rfl, hg2, hc2⟩ := (R2.out).resolve_left (by omega)
      obtain ⟨v1, b1, e1, o1⟩ := hc1.out i hiL
      obtain ⟨v2, b2, e2, o2⟩ := hc2.out i hiL
      have d1 := kc hB e1
      have d2 := kc hB e2
      have O1 := Lib.hid (Owns.below o1 hB)
      have O2 := Lib.hid (Owns.below o2 hB)
      have hlen := HR.out _ (List.getElem_mem hiL)
      generalize L[i] = x at O1 O2 hlen
      have EQ := Lib.hid (fun (V : World) (h : ((V.cell? ⟨g1, i, none⟩ = some v1 ∧ V.cell? ⟨g2, i, none⟩ = some v2) ∧ Below wr.heap.size wr V)) => eqInt64S_same hlen V (Owns.below O1.out h.2) (Owns.below O2.out h.2))
      have hdj : decide ((i : Int) < (n : Int)) = true := by simp; omega
      have j1' : (0 : Int) ≤ (i : Int) := by omega
      have j2' : (i : Int) < (n : Int) := by omega
      clear e1 e2 o1 o2 hc1 hc2
      have MK : Hid (∀ Wx : World, Below wr.heap.size wr Wx → ((Wx.cell? ⟨g1, i, none⟩ = some v1 ∧ Wx.cell? ⟨g2, i, none⟩ = some v2) ∧ Below wr.heap.size wr Wx)) := Lib.hid fun Wx h => ⟨⟨kc h d1, kc h d2⟩, h⟩
      have ST : Hid (∀ V Wx : World, Below V.heap.size V Wx → ((V.cell? ⟨g1, i, none⟩ = some v1 ∧ V.cell? ⟨g2, i, none⟩ = some v2) ∧ Below wr.heap.size wr V) → ((Wx.cell? ⟨g1, i, none⟩ = some v1 ∧ Wx.cell? ⟨g2, i, none⟩ = some v2) ∧ Below wr.heap.size wr Wx)) := Lib.hid fun V Wx hb h => MK.out Wx (bthen h.2 hb)
      go_wp2
      go_region_held3 (fun Wx => ((Wx.cell? ⟨g1, i, none⟩ = some v1 ∧ Wx.cell? ⟨g2, i, none⟩ = some v2) ∧ Below wr.heap.size wr Wx))
        (first
          | with_reducible exact MK.out _ (Below.refl _ _).drew
          | (with_reducible refine ST.out _ _ hb8 ?_; with_reducible assumption)
          | with_reducible assumption)
        (first
          | (go_at_call 53; refine (EQ.out _ (by with_reducible assumption)).mono ?_; rintro e w8 ⟨rfl, hb8⟩; have T8 := ST.out _ _ hb8 (by with_reducible assumption)))
      all_goals
        have hB9 := bthen hB T8.2
        clear T8 MK ST EQ
        go_wp2
        go_roundw
        case rel => exact ⟨i + 1, by omega, by go_num, hB9⟩
        case measure => simp [intOf]; omega
    · obtain rfl : i = n := by omega
      go_wp2
      go_ret
      exact ⟨rfl, hB⟩
end Go.Proofs.Ytdgpjpcdifpllaa

/- BL12:
  Lists of lists in the laws: marked, and the marks read again. -/
namespace Go.Proofs.Ytdgpjpcdifpllaa
open Go.RowKit Go.Shelf
set_option linter.unusedVariables false
set_option linter.unusedSimpArgs false

/-- How many numbers stand in the first i rows. -/
def offL (L : List PartV) (i : Nat) : Nat := ((L.take i).map fun x => x.2.length).sum
theorem offL_succ {L : List PartV} {i : Nat} (h : i < L.length) : offL L (i + 1) = offL L i + (L[i]).2.length := by
  unfold offL
  rw [List.take_succ_eq_append_getElem h]
  simp only [List.map_append, List.map_cons, List.map_nil, List.sum_append, List.sum_cons, List.sum_nil]
  omega
theorem offL_le {L : List PartV} (h8 : ∀ x ∈ L, x.2.length ≤ 8) : ∀ i, i ≤ L.length → offL L i ≤ i * 8
  | 0, _ => by simp [offL]
  | i + 1, h => by
    have := offL_le h8 i (by omega)
    rw [offL_succ (by omega)]
    have := h8 _ (List.getElem_mem (show i < L.length by omega))
    omega
theorem offL_congr {L L' : List PartV} (h : L'.map (fun x => x.2.length) = L.map (fun x => x.2.length)) (i : Nat) : offL L' i = offL L i := by
  unfold offL
  rw [List.map_take, List.map_take, h]
def MarkedL (L : List PartV) (k : Nat) : Prop := ∀ i (h : i < L.length), i < k → (L[i]).2 = marks (1 + (offL L i : Int)) (L[i]).2.length
theorem rows_set {base : Nat} {L : List PartV} {W W' : World} {i : Nat} (hi : i < L.length) (h : RowsB base L W) {ys : List Int} (hl : ys.length = (L[i]).2.length) (hg : W.grownBy W' (L[i]).1.ownBlock) (ho : Owns W' base (L[i]).1 ys) : RowsB base (L.set i ((L[i]).1, ys)) W' := by
  have hap := List.pairwise_iff_getElem.1 h.ap
  refine ⟨fun x hx => ?_, List.pairwise_iff_getElem.2 fun p q hp hq hpq => ?_⟩
  · obtain ⟨j, hj, rfl⟩ := List.mem_iff_getElem.1 hx
    rw [List.length_set] at hj
    by_cases hji : i = j
    · subst hji
      rw [List.getElem_set_self]
      obtain ⟨⟨b, c, e⟩, _⟩ := h.row _ (List.getElem_mem hi)
      exact ⟨⟨b, c, by rw [hl]; exact e⟩, ho⟩
    · rw [List.getElem_set_ne hji]
      obtain ⟨he, ho2⟩ := h.row _ (List.getElem_mem hj)
      refine ⟨he, World.ownsRow.kept ho2 hg (.inr fun e => ?_)⟩
      rcases Nat.lt_or_gt_of_ne hji with h1 | h1
      · exact hap i j hi hj h1 e.symm
      · exact hap j i hj hi h1 e
  · rw [List.length_set] at hp hq
    have key : ∀ t (ht : t < (L.set i ((L[i]).1, ys)).length), ((L.set i ((L[i]).1, ys))[t]).1 = (L[t]'(by simpa using ht)).1 := fun t ht => by
      by_cases h1 : i = t
      · subst h1; rw [List.getElem_set_self]
      · rw [List.getElem_set_ne h1]
    rw [key, key]
    exact hap p q hp hq hpq
theorem map_set_same {β : Type} (f : PartV → β) {L : List PartV} {i : Nat} (hi : i < L.length) {y : PartV} (h : f y = f L[i]) : (L.set i y).map f = L.map f := by
  refine List.ext_getElem (by simp) fun j h1 h2 => ?_
  rw [List.getElem_map, List.getElem_map]
  by_cases hij : i = j
  · subst hij; rw [List.getElem_set_self]; exact h
  · rw [List.getElem_set_ne hij]
theorem map_set_fst {L : List PartV} {i : Nat} (hi : i < L.length) (ys : List Int) : (L.set i ((L[i]).1, ys)).map (·.1) = L.map (·.1) := map_set_same _ hi rfl
theorem map_set_len {L : List PartV} {i : Nat} (hi : i < L.length) {ys : List Int} (hl : ys.length = (L[i]).2.length) : (L.set i ((L[i]).1, ys)).map (fun x => x.2.length) = L.map (fun x => x.2.length) := map_set_same _ hi hl

set_option maxRecDepth 100000 in
set_option maxHeartbeats 4000000 in
theorem markLL_any {lo : Nat} {s : Value} {Lp : List PartV} (hn : Lp.length ≤ 3000) (h8 : ∀ x ∈ Lp, x.2.length ≤ 8) (w : World) (ht : w.ownsRow lo 55 1 s Lp.length (Lp.map (·.1))) (hr : RowsB lo Lp w) (hlo : lo ≤ w.heap.size) :
    Calls Try.prog 66 #[s, .int .i64 1] w fun e w' => ∃ Lq : List PartV, e = .returned (.int .i64 (1 + (offL Lq Lq.length : Int))) ∧ Lq.map (fun x => x.2.length) = Lp.map (fun x => x.2.length) ∧ MarkedL Lq Lq.length ∧ w'.ownsRow lo 55 1 s Lq.length (Lq.map (·.1)) ∧ RowsB lo Lq w' ∧ Below lo w w' := by
  obtain ⟨n, hN⟩ : ∃ n, Lp.length = n := ⟨_, rfl⟩
  obtain ⟨a, cap, rfl⟩ : ∃ a cap, s = .slice a n cap := by
    obtain ⟨_, ⟨rfl, h0⟩ | ⟨g, c, cur, rfl, _⟩⟩ := ht
    · exact ⟨none, 0, by rw [← hN, h0]⟩
    · exact ⟨_, c, by rw [hN]⟩
  have P0 : Hid (∃ Lq : List PartV, Lq.length = n ∧ Lq.map (·.1) = Lp.map (·.1) ∧ Lq.map (fun x => x.2.length) = Lp.map (fun x => x.2.length) ∧ MarkedL Lq 0 ∧ w.ownsRow lo 55 1 (.slice a n cap) Lq.length (Lq.map (·.1)) ∧ RowsB lo Lq w) := Lib.hid ⟨Lp, hN, rfl, rfl, fun i h h0 => by omega, ht, hr⟩
  have HL8 := Lib.hid h8
  rw [hN] at hn
  clear ht hr h8
  go_enter Try.func66, Try.ntmps66
  go_wp2
  go_loopw [1, 5] (fun m' i' wr => ∃ i : Nat, i ≤ n ∧ i' = .int .i64 i ∧ m' = .int .i64 (1 + (offL Lp i : Int)) ∧ Hid (∃ Lq : List PartV, Lq.length = n ∧ Lq.map (·.1) = Lp.map (·.1) ∧ Lq.map (fun x => x.2.length) = Lp.map (fun x => x.2.length) ∧ MarkedL Lq i ∧ wr.ownsRow lo 55 1 (.slice a n cap) Lq.length (Lq.map (·.1)) ∧ RowsB lo Lq wr) ∧ Below lo w wr) (fun _ i' _ => n - (intOf i').toNat)
  case atStart => exact ⟨0, Nat.zero_le _, rfl, by simp [offL], P0, Below.refl _ _⟩
  case round =>
    clear P0
    obtain ⟨i, hi, rfl, rfl, HP, hB⟩ := hrel
    by_cases hlt : i < n
    · obtain ⟨Lq, hql, hq1, hq2, hqm, hqt, hqr⟩ := HP.out
      have hiq : i < Lq.length := by omega
      obtain ⟨g, rfl⟩ : ∃ g, a = some ⟨g, 0, none⟩ := by
        obtain ⟨_, ⟨e, h0⟩ | ⟨g, c, cur, e, _⟩⟩ := hqt
        · omega
        · cases e; exact ⟨g, rfl⟩
      have e0 : wr.cell? ⟨g, i, none⟩ = some (Lq[i]).1 := by
        have hqt' : wr.ownsRow lo 55 1 (.slice (some ⟨g, 0, none⟩) Lq.length cap) Lq.length (Lq.map (·.1)) := by rw [hql] at hqt ⊢; exact hqt
        rw [World.ownsRow.cellAt hqt' i (by omega), List.getElem?_map, List.getElem?_eq_getElem hiq]
        rfl
      have hr1 := (hqr.row _ (List.getElem_mem hiq)).2
      have hlen8 : (Lq[i]).2.length ≤ 8 := by
        have e1 : (Lq.map (fun x => x.2.length))[i]? = (Lp.map (fun x => x.2.length))[i]? := by rw [hq2]
        rw [List.getElem?_map, List.getElem?_map, List.getElem?_eq_getElem hiq, List.getElem?_eq_getElem (by omega)] at e1
        simp only [Option.map_some, Option.some.injEq] at e1
        rw [e1]
        exact HL8.out _ (List.getElem_mem _)
      have hoff : offL Lp i ≤ i * 8 := offL_le HL8.out i (by omega)
      have MK := Lib.hid (mark_any (by omega) (1 + (offL Lp i : Int)) (by omega) (by omega) wr hr1)
      have HO := Lib.hid (offL_congr hq2)
      have hofs : offL Lp (i + 1) = offL Lp i + (Lq[i]).2.length := by rw [← HO.out, ← HO.out, offL_succ hiq]
      have HQ := Lib.hid (And.intro hq1 (And.intro hq2 (And.intro hqm (And.intro hqt hqr))))
      clear hqt hqr hr1 hqm hq1 hq2
      go_wp2_with (go_at_call 56; refine MK.out.mono ?_; rintro e w5 ⟨rfl, ho5, hg5⟩)
      obtain ⟨hq1, hq2, hqm, hqt, hqr⟩ := HQ.out
      have hml : (marks (1 + (offL Lp i : Int)) (Lq[i]).2.length).length = (Lq[i]).2.length := marks_length _ _
      have hlo5 := hqr.row _ (List.getElem_mem hiq)
      have hge : ∀ b, (Lq[i]).1.ownBlock = some b → lo ≤ b := fun b hb => (World.ownsRow.lt hlo5.2 b hb).1
      have HF : Hid ((∃ Lq : List PartV, Lq.length = n ∧ Lq.map (·.1) = Lp.map (·.1) ∧ Lq.map (fun x => x.2.length) = Lp.map (fun x => x.2.length) ∧ MarkedL Lq (i + 1) ∧ w5.ownsRow lo 55 1 (.slice (some ⟨g, 0, none⟩) n cap) Lq.length (Lq.map (·.1)) ∧ RowsB lo Lq w5) ∧ Below lo w w5) := Lib.hid ⟨⟨Lq.set i ((Lq[i]).1, marks (1 + (offL Lp i : Int)) (Lq[i]).2.length), by simpa using hql, by rw [map_set_fst hiq]; exact hq1, by rw [map_set_len hiq hml]; exact hq2, fun t ht h1 => by
          rw [List.length_set] at ht
          rw [offL_congr (map_set_len hiq hml), HO.out]
          by_cases hti : i = t
          · subst hti
            rw [List.getElem_set_self]
            simp [marks_length]
          · simp only [List.getElem_set_ne hti]
            have := hqm t ht (by omega)
            rw [HO.out] at this
            exact this, by
          rw [map_set_fst hiq, List.length_set]
          exact World.ownsRow.kept hqt hg5 (rows_apart hqt hlo5.2 (by decide)), rows_set hiq hqr hml hg5 ho5⟩, hB.grown hg5 (Nat.le_trans hlo hB.size) hge⟩
      clear ho5 hg5 hqt hqr
      go_wp2
      go_roundw
      case rel => exact ⟨i + 1, by omega, by go_num, by rw [hofs]; go_num, Lib.hid HF.out.1, HF.out.2⟩
      case measure => simp [intOf]; omega
    · obtain rfl : i = n := by omega
      obtain ⟨Lq, hql, hq1, hq2, hqm, hqt, hqr⟩ := HP.out
      have HQ := Lib.hid (And.intro hqm (And.intro hqt hqr))
      have HO := Lib.hid (offL_congr hq2)
      have HQ2 := Lib.hid hq2
      clear hqm hqt hqr hq1 hq2
      go_wp2
      go_ret
      exact ⟨Lq, by rw [HO.out, hql]; rfl, HQ2.out, by rw [hql]; exact HQ.out.1, HQ.out.2.1, HQ.out.2.2, hB⟩

set_option maxRecDepth 100000 in
set_option maxHeartbeats 4000000 in
theorem heldLL_any {lo : Nat} {s : Value} {Lq : List PartV} (hn : Lq.length ≤ 3000) (h8 : ∀ x ∈ Lq, x.2.length ≤ 8) (hm : MarkedL Lq Lq.length) (w : World) (ht : w.ownsRow lo 55 1 s Lq.length (Lq.map (·.1))) (hr : RowsB lo Lq w) :
    Calls Try.prog 67 #[s, .int .i64 1] w fun e w' => e = .returned (.int .i64 (1 + (offL Lq Lq.length : Int))) ∧ w = w' := by
  obtain ⟨n, hN⟩ : ∃ n, Lq.length = n := ⟨_, rfl⟩
  obtain ⟨a, cap, rfl⟩ : ∃ a cap, s = .slice a n cap := by
    obtain ⟨_, ⟨rfl, h0⟩ | ⟨g, c, cur, rfl, _⟩⟩ := ht
    · exact ⟨none, 0, by rw [← hN, h0]⟩
    · exact ⟨_, c, by rw [hN]⟩
  have HT := Lib.hid ht
  have HR := Lib.hid hr
  have HM := Lib.hid hm
  have HL8 := Lib.hid h8
  rw [hN] at hn ⊢
  clear ht hr h8 hm
  go_enter Try.func67, Try.ntmps67
  go_wp2
  go_loopw [1, 5] (fun m' i' wr => ∃ i : Nat, i ≤ n ∧ i' = .int .i64 i ∧ m' = .int .i64 (1 + (offL Lq i : Int)) ∧ w = wr) (fun _ i' _ => n - (intOf i').toNat)
  case atStart => exact ⟨0, Nat.zero_le _, rfl, by simp [offL], rfl⟩
  case round =>
    obtain ⟨i, hi, rfl, rfl, rfl⟩ := hrel
    by_cases hlt : i < n
    · have hiq : i < Lq.length := by omega
      have hqt := HT.out
      obtain ⟨g, rfl⟩ : ∃ g, a = some ⟨g, 0, none⟩ := by
        obtain ⟨_, ⟨e, h0⟩ | ⟨g, c, cur, e, _⟩⟩ := HT.out
        · omega
        · cases e; exact ⟨g, rfl⟩
      have e0 : w.cell? ⟨g, i, none⟩ = some (Lq[i]).1 := by
        have hqt' : w.ownsRow lo 55 1 (.slice (some ⟨g, 0, none⟩) Lq.length cap) Lq.length (Lq.map (·.1)) := by rw [hN] at hqt ⊢; exact hqt
        rw [World.ownsRow.cellAt hqt' i (by omega), List.getElem?_map, List.getElem?_eq_getElem hiq]
        rfl
      have hr1 := (HR.out.row _ (List.getElem_mem hiq)).2
      have hmi := HM.out i hiq (by omega)
      have hlen8 := HL8.out _ (List.getElem_mem hiq)
      have hoff : offL Lq i ≤ i * 8 := offL_le HL8.out i (by omega)
      have hofs := offL_succ hiq
      rw [hmi] at hr1
      have HD := Lib.hid (held_any (n := (Lq[i]).2.length) (by omega) (1 + (offL Lq i : Int)) (by omega) (by omega) w hr1)
      have hd : decide (1 + (offL Lq i : Int) + ((Lq[i]).2.length : Int) < 0) = false := by simp; omega
      clear hqt hr1 hmi
      go_wp2_with (go_at_call 57; refine HD.out.mono ?_; rintro e w5 ⟨rfl, rfl⟩)
      go_roundw
      case rel => exact ⟨i + 1, by omega, by go_num, by rw [hofs]; go_num, by first | rfl | trivial⟩
      case measure => simp [intOf]; omega
    · obtain rfl : i = n := by omega
      go_wp2
      go_ret
      exact ⟨rfl, rfl⟩
end Go.Proofs.Ytdgpjpcdifpllaa

/- BL13:
  BasesOf in both packages. -/
namespace Go.Proofs.Ytdgpjpcdifpllaa
open Go.RowKit Go.Shelf
set_option linter.unusedVariables false
set_option linter.unusedSimpArgs false

theorem atLL_of {W : World} {lo : Nat} {s : Value} {Lp : List PartV} {L : List (List Int)} (hL : Lp.map (·.2) = L) (ht : W.ownsRow lo 55 1 s Lp.length (Lp.map (·.1))) (hr : RowsB lo Lp W) : AtLL W s L := by
  subst hL
  have ht' := ht
  obtain ⟨_, ⟨rfl, h0⟩ | ⟨g, cap, cur, rfl, _, hc, _⟩⟩ := ht
  · exact ⟨none, 0, by simp [h0], .inl (by simpa using h0)⟩
  · refine ⟨_, cap, by simp, .inr ⟨g, rfl, (Array.getElem?_eq_some_iff.1 hc).1, Lib.hid fun k hk => ?_⟩⟩
    have hk' : k < Lp.length := by simpa using hk
    refine ⟨(Lp[k]).1, lo, ?_, ?_⟩
    · rw [World.ownsRow.cellAt ht' k (by omega), List.getElem?_map, List.getElem?_eq_getElem hk']
      rfl
    · rw [List.getElem_map]
      exact (hr.row _ (List.getElem_mem hk')).2
theorem len8_of {Lp Lq : List PartV} (h : Lq.map (fun x => x.2.length) = Lp.map (fun x => x.2.length)) (h8 : ∀ x ∈ Lp, x.2.length ≤ 8) : ∀ x ∈ Lq, x.2.length ≤ 8 := fun x hx => by
  have h1 : x.2.length ∈ Lq.map (fun x => x.2.length) := List.mem_map.2 ⟨x, hx, rfl⟩
  rw [h] at h1
  obtain ⟨y, hy, e⟩ := List.mem_map.1 h1
  rw [← e]
  exact h8 y hy
/-- What the model and the program answer. -/
def SpecLL (L : List (List Int)) (c : Int) (w : World) (e : Ending) (w' : World) : Prop := ∃ s, e = .returned (.tuple #[s, .int .i64 c]) ∧ AtLL w' s L ∧ Below w.heap.size w w'
def ImplLL (L : List (List Int)) (c : Int) (w : World) (e : Ending) (w' : World) : Prop := ∃ s Lp, e = .returned (.tuple #[s, .int .i64 c]) ∧ Lp.map (·.2) = L ∧ w'.ownsRow w.heap.size 55 1 s Lp.length (Lp.map (·.1)) ∧ RowsB w.heap.size Lp w' ∧ Below w.heap.size w w'

theorem bothBasesOf {xs : List (Int × Int)} (hl : xs.length ≤ 1048576) : ∃ (L : List (List Int)) (rc : Int), L.length ≤ 3000 ∧ (∀ r ∈ L, r.length ≤ 8) ∧
    (∀ base s w, OwnsF w base s xs → Calls Try.prog 63 #[s] w (SpecLL L rc w)) ∧
    (∀ base s w, OwnsF w base s xs → Calls Try.prog 64 #[s] w (ImplLL L rc w)) := by
  by_cases hc : codeL xs = 0
  · obtain ⟨hx, h8⟩ := codeL_ok hc
    refine ⟨basesTo xs xs.length (xs.length + 1), 0, ?_, fun r hr => ?_, fun base s w h => (specBasesOf_yes hc w h).mono ?_, fun base s w h => (implBasesOf_yes hc w h).mono ?_⟩
    · have h1 := basesTo_len xs xs.length (xs.length + 1)
      have h2 : 2 ^ xs.length ≤ 2 ^ 8 := Nat.pow_le_pow_right (by decide) h8
      have h3 := Nat.mul_le_mul (show xs.length + 1 ≤ 9 by omega) h2
      omega
    · unfold basesTo at hr
      obtain ⟨t, ht, hr⟩ := List.mem_flatMap.1 hr
      have h1 := partsN_row _ _ _ _ (List.mem_filter.1 hr).1
      have h2 : t < xs.length + 1 := by simpa using ht
      omega
    · rintro e w' ⟨g, cap, vs, rfl, hLL, hb⟩
      exact ⟨_, rfl, hLL.at, hb⟩
    · rintro e w' ⟨v, L, rfl, hL, ht, hr, hb⟩
      exact ⟨v, L, rfl, hL, ht, hr, hb⟩
  · refine ⟨[], codeL xs, by simp, fun r hr => by simp at hr, fun base s w h => (specBasesOf_no hl hc w h).mono ?_, fun base s w h => (implBasesOf_no hl hc w h).mono ?_⟩
    · rintro e w' ⟨rfl, hb⟩
      exact ⟨_, rfl, ⟨none, 0, rfl, .inl rfl⟩, hb⟩
    · rintro e w' ⟨rfl, hb⟩
      exact ⟨_, [], rfl, rfl, World.ownsRow_nil _ _ _ _, ⟨fun x h => by simp at h, List.Pairwise.nil⟩, hb⟩
end Go.Proofs.Ytdgpjpcdifpllaa

/- H0:
  The box of an answer that is a function. -/
namespace Go.Proofs.Ytdgpjpcdifpllaa
open Go.RowKit
theorem ansBox (n b : Int) (w : World) : ∃ W1, w.alloc (.cells #[.int .i64 n, .int .i64 b] 23) = W1 ∧ W1.cell? ⟨w.heap.size, 0, none⟩ = some (.int .i64 n) ∧ W1.cell? ⟨w.heap.size, 1, none⟩ = some (.int .i64 b) ∧ Below w.heap.size w W1 :=
  ⟨_, rfl, by simp [go_sem], by simp [go_sem], bnew _ _⟩
end Go.Proofs.Ytdgpjpcdifpllaa

/- H9:
  Lists beside each other: one is marked, the others are as they were. -/
namespace Go.Proofs.Ytdgpjpcdifpllaa
open Go.RowKit
theorem Owns.ge {W : World} {b : Nat} {s : Value} {xs : List Int} (h : Owns W b s xs) : ∀ k, s.ownBlock = some k → b ≤ k := fun k hk => (World.ownsRow.lt h k hk).1
theorem Owns.keep {W W' : World} {b : Nat} {s : Value} {xs : List Int} {row : Option Nat} (h : Owns W b s xs) (hg : W.grownBy W' row) (hne : ∀ k, s.ownBlock = some k → some k ≠ row) : Owns W' b s xs := by
  refine World.ownsRow.kept h hg ?_
  cases hs : s.ownBlock with
  | none => exact .inl rfl
  | some k => exact .inr (hne k hs)
theorem below_markedF {B : Nat} {W0 W W' : World} {b : Nat} {s : Value} {xs : List (Int × Int)} (hN : Below B W0 W) (h : OwnsF W b s xs) (hg : W.grownBy W' s.ownBlock) (hB : B ≤ b) (hs : B ≤ W.heap.size) : Below B W0 W' :=
  hN.grown hg hs (fun j e => Nat.le_trans hB (h.ge j e))
end Go.Proofs.Ytdgpjpcdifpllaa

/- FBasesOf:
  The walk of the law on BasesOf: both packages answer alike, and the list that came in is as it was. -/
namespace Go.Proofs.Ytdgpjpcdifpllaa
open Go.RowKit
set_option linter.unusedVariables false

set_option maxRecDepth 100000 in
set_option maxHeartbeats 4000000 in
theorem fnExactBasesOf_walk (a0 : Option Addr) (len0 cap0 : Nat) (z0 : List (Int × Int)) (w : World) (hr0 : IsRowF w a0 len0 z0) :
    Calls Try.prog 9 #[.slice a0 len0 cap0] w fun e w' => e = .returned (.bool true) ∧ Below w.heap.size w w' := by
  by_cases hle : len0 ≤ 1048576
  · have hxl : z0.length ≤ 1048576 := by rw [hr0.1]; exact hle
    obtain ⟨L, rc, hlen, hl8, c1, c2⟩ := bothBasesOf hxl
    have C1 := Lib.hid c1
    have C2 := Lib.hid c2
    have HR := Lib.hid hr0
    have HX := Lib.hid hxl
    clear c1 c2 hr0 hxl
    obtain ⟨W1, hW1⟩ : ∃ W1, w = W1 := ⟨_, rfl⟩
    have hN : Below w.heap.size w W1 := by rw [← hW1]; exact Below.refl _ _
    go_enter Try.func9, Try.ntmps9
    go_wp2_with fail
    clear hW1
    refine (szFuncS_ok a0 len0 cap0 hle _).mono ?_
    rintro e w' ⟨rfl, rfl⟩
    go_wp2_with fail
    have hs_O1 := hN.size
    go_wp2_with fail
    refine (toFuncS_any HR.out hle _ hN).mono ?_
    rintro e w2 ⟨s1, rfl, o, hb⟩
    have O1 := Lib.hid o
    clear o
    replace hN := bthen hN hb
    clear hb
    go_wp2_with fail
    have hs_O2 := hN.size
    go_wp2_with fail
    refine (C1.out _ _ _ O1.out).mono ?_
    rintro e w3 ⟨s2, rfl, o, hb⟩
    have O2 := Lib.hid o
    clear o
    replace hN := bthen hN hb
    have hN2 : Below w3.heap.size w3 w3 := Below.refl _ _
    replace O1 := Lib.hid (O1.out.below hb)
    clear hb
    clear O1
    go_wp2_with fail
    have hs_O3 := hN.size
    go_wp2_with fail
    refine (toFuncS_any HR.out hle _ hN).mono ?_
    rintro e w4 ⟨s3, rfl, o, hb⟩
    have O3 := Lib.hid o
    clear o
    replace hN := bthen hN hb
    replace hN2 := bthen hN2 hb
    clear hb
    go_wp2_with fail
    have hs_O4 := hN.size
    go_wp2_with fail
    refine (C2.out _ _ _ O3.out).mono ?_
    rintro e w5 ⟨s4, Lp, rfl, hL4, ot4, or4, hb⟩
    have hs4w := hN.size
    have hs43 := hN2.size
    have hs4c : w4.heap.size ≤ w5.heap.size := hb.size
    have O4 := Lib.hid (And.intro ot4 or4)
    have h8p : ∀ x ∈ Lp, x.2.length ≤ 8 := fun x hx => hl8 _ (by rw [← hL4]; exact List.mem_map.2 ⟨x, hx, rfl⟩)
    have hlp : Lp.length ≤ 3000 := by rw [← hL4] at hlen; simpa using hlen
    clear ot4 or4
    replace hN := bthen hN hb
    replace hN2 := bthen hN2 hb
    replace O3 := Lib.hid (O3.out.below hb)
    clear hb
    go_wp2_with fail
    refine (eqInt64SS_same (by omega) (fun r hr => by have := hl8 r hr; omega) _ (atLL_of hL4 O4.out.1 O4.out.2) (O2.out.below hN2)).mono ?_
    rintro e w6 ⟨rfl, hb⟩
    replace hN := bthen hN hb
    replace hN2 := bthen hN2 hb
    replace O3 := Lib.hid (O3.out.below hb)
    replace O4 := Lib.hid (And.intro (owns_belowB O4.out.1 hb) (O4.out.2.below hb))
    try (replace hs4c := Nat.le_trans hs4c hb.size)
    clear hb
    go_wp2_with fail
    have hs_O5 := hN.size
    go_wp2_with fail
    refine (toFuncS_any HR.out hle _ hN).mono ?_
    rintro e w7 ⟨s5, rfl, o, hb⟩
    have O5 := Lib.hid o
    clear o
    replace hN := bthen hN hb
    replace hN2 := bthen hN2 hb
    replace O3 := Lib.hid (O3.out.below hb)
    replace O4 := Lib.hid (And.intro (owns_belowB O4.out.1 hb) (O4.out.2.below hb))
    try (replace hs4c := Nat.le_trans hs4c hb.size)
    clear hb
    go_wp2_with fail
    refine (eqFuncS_same (by have := HX.out; omega) _ O3.out O5.out).mono ?_
    rintro e w8 ⟨rfl, hb⟩
    replace hN := bthen hN hb
    replace hN2 := bthen hN2 hb
    replace O3 := Lib.hid (O3.out.below hb)
    replace O4 := Lib.hid (And.intro (owns_belowB O4.out.1 hb) (O4.out.2.below hb))
    try (replace hs4c := Nat.le_trans hs4c hb.size)
    replace O5 := Lib.hid (O5.out.below hb)
    clear hb
    clear O5
    go_wp2_with fail
    refine (markFuncS_any (by have := HX.out; omega) 1 (by omega) (by omega) _ O3.out).mono ?_
    rintro e w9 ⟨rfl, o, hg⟩
    have hO3r : World.ownsRow _ _ _ _ _ _ _ := O3.out
    replace hN := below_markedF hN O3.out hg hs_O3 hN.size
    replace hN2 := hN2.grown hg hN2.size (fun j e => O3.out.ge j e)
    replace hs4c := Nat.le_trans hs4c hg.size
    replace O4 := Lib.hid (And.intro (World.ownsRow.kept O4.out.1 hg (rows_apart O4.out.1 hO3r (by decide))) (O4.out.2.grown hg hO3r (by decide)))
    clear hO3r
    replace O3 := Lib.hid o
    clear o hg
    go_wp2_with fail
    refine (eqInt64SS_same (by omega) (fun r hr => by have := hl8 r hr; omega) _ (atLL_of hL4 O4.out.1 O4.out.2) (O2.out.below hN2)).mono ?_
    rintro e w10 ⟨rfl, hb⟩
    replace hN := bthen hN hb
    replace hN2 := bthen hN2 hb
    replace O3 := Lib.hid (O3.out.below hb)
    replace O4 := Lib.hid (And.intro (owns_belowB O4.out.1 hb) (O4.out.2.below hb))
    try (replace hs4c := Nat.le_trans hs4c hb.size)
    clear hb
    clear O3
    go_wp2_with fail
    refine (markLL_any hlp h8p _ O4.out.1 O4.out.2 hs4c).mono ?_
    rintro e w11 ⟨Lq, rfl, hq2, hqm, oq1, oq2, hbm⟩
    have hlq : Lq.length ≤ 3000 := by
      have := congrArg List.length hq2
      simp at this
      omega
    have h8q := len8_of hq2 h8p
    replace hN := hN.trans (hbm.mono hs4w)
    replace hN2 := hN2.trans (hbm.mono hs43)
    replace O4 := Lib.hid (And.intro oq1 oq2)
    clear oq1 oq2 hbm
    go_wp2_with fail
    refine (heldLL_any hlq h8q hqm _ O4.out.1 O4.out.2).mono ?_
    rintro e w12 ⟨rfl, rfl⟩
    go_wp2_with fail
    have hs_O6 := hN.size
    go_wp2_with fail
    refine (toFuncS_any HR.out hle _ hN).mono ?_
    rintro e w13 ⟨s6, rfl, o, hb⟩
    have O6 := Lib.hid o
    clear o
    replace hN := bthen hN hb
    replace hN2 := bthen hN2 hb
    replace O4 := Lib.hid (And.intro (owns_belowB O4.out.1 hb) (O4.out.2.below hb))
    try (replace hs4c := Nat.le_trans hs4c hb.size)
    clear hb
    go_wp2_with fail
    have hs_O7 := hN.size
    go_wp2_with fail
    refine (C2.out _ _ _ O6.out).mono ?_
    rintro e w14 ⟨s7, Lp7, rfl, hL7, ot7, or7, hb⟩
    have O7 := Lib.hid (And.intro ot7 or7)
    clear ot7 or7
    replace hN := bthen hN hb
    replace hN2 := bthen hN2 hb
    replace O4 := Lib.hid (And.intro (owns_belowB O4.out.1 hb) (O4.out.2.below hb))
    try (replace hs4c := Nat.le_trans hs4c hb.size)
    replace O6 := Lib.hid (O6.out.below hb)
    clear hb
    clear O6
    go_wp2_with fail
    refine (eqInt64SS_same (by omega) (fun r hr => by have := hl8 r hr; omega) _ (atLL_of hL7 O7.out.1 O7.out.2) (O2.out.below hN2)).mono ?_
    rintro e w15 ⟨rfl, hb⟩
    replace hN := bthen hN hb
    replace hN2 := bthen hN2 hb
    replace O4 := Lib.hid (And.intro (owns_belowB O4.out.1 hb) (O4.out.2.below hb))
    try (replace hs4c := Nat.le_trans hs4c hb.size)
    clear hb
    clear O7
    go_wp2_with fail
    refine (heldLL_any hlq h8q hqm _ O4.out.1 O4.out.2).mono ?_
    rintro e w16 ⟨rfl, rfl⟩
    go_wp2
    go_ret
    exact ⟨rfl, hN⟩
  · have hlim := hr0.2.1
    clear hr0
    obtain ⟨W1, hW1⟩ : ∃ W1, w = W1 := ⟨_, rfl⟩
    have hN : Below w.heap.size w W1 := by rw [← hW1]; exact Below.refl _ _
    go_enter Try.func9, Try.ntmps9
    go_wp2_with (go_at_call 21; refine (szFuncS_over a0 len0 cap0 (by omega) hlim _).mono ?_; rintro e w' ⟨rfl, rfl⟩)
    go_ret
    exact ⟨rfl, hN⟩
end Go.Proofs.Ytdgpjpcdifpllaa
