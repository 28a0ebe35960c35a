/-
  The texts MO16, ZB, MO17, MO18, MO19, ID1, SP1, SP2, CO1, SP3, CO2, ID2, ID4, ID5 in one.
-/
import Derived.Test.YtbdhlokbpbiijaaMPFnIdentities4
import Derived.Deep.RegionLaw
import Derived.Lib.BufferMore
import Derived.ChangeKeysEq
import Derived.Laws.Cover1

/- MO16:
  The levels: levelBounds of the program. -/
namespace Go.Proofs.Ytbdhlokbpbiijaa
open Go.RowKit Go.Shelf
attribute [local go_sem] Oper.semAt_some
set_option linter.unusedVariables false
set_option linter.unusedSimpArgs false

theorem loF_nil {R : Nat} (n x s : Nat) : loF n x ([] : List (Row R)) s = if s < n + 1 then 1 else 0 := by
  unfold loF
  by_cases h : s ≤ n
  · rw [if_pos h, if_pos (by omega)]; rfl
  · rw [if_neg h, if_neg (by omega)]
theorem hiF_nil {R : Nat} (x s : Nat) : hiF x ([] : List (Row R)) s = 0 := rfl
theorem LvM.congr {B : Nat} {n : Int} {x : Nat} {lo hi lo2 hi2 : Nat → Nat} {W : World} (h : LvM B n x lo hi W) (hl : ∀ j, j < 5 → lo2 j = lo j) (hh : ∀ j, j < 5 → hi2 j = hi j) : LvM B n x lo2 hi2 W := ⟨h.c0, h.c1, h.l.congr hl, h.h.congr hh⟩

set_option maxRecDepth 100000 in
set_option maxHeartbeats 8000000 in
theorem levelBounds_any {n : Int} {x R : Nat} (ok : FOk n x R) (w : World) :
    Calls Try.prog 114 #[.agg #[.int .i64 n, .int .i64 (x : Int)]] w fun e w' => e = .returned (.tuple #[arr5 (loF n.toNat x (upto ok.r0 R)), arr5 (hiF x (upto ok.r0 R))]) ∧ Below w.heap.size w w' := by
  obtain ⟨m, rfl⟩ : ∃ m : Nat, n = (m : Int) := Int.eq_ofNat_of_zero_le ok.h0
  have hmn : ((m : Int)).toNat = m := by omega
  rw [hmn]
  have m4 : m ≤ 4 := by have := ok.h4; omega
  have hw1 : IntKind.i64.wrap ((m : Int) + 1) = ((m + 1 : Nat) : Int) := by rw [show (m : Int) + 1 = ((m + 1 : Nat) : Int) by omega]; exact wrap64_small (by omega) (by omega)
  have r0 := ok.r0
  have r16 := ok.r16
  have h4 := ok.h4
  have h0 := ok.h0
  have HSZ := Lib.hid (fun (r : Nat) (hr : r < R) => (size_lt m (by omega) r (by have := ok.he; rw [hmn] at this; rw [← this]; exact hr) : sizeN r ≤ m))
  clear hmn
  have SZ0 := Lib.hid (fun (r : Nat) (hr : r < 16) W => rowSize_any r hr W)
  have VR0 := Lib.hid (fun (r : Nat) (hr : r < 16) W => valueInRow_any (m : Int) x r ok.hx (by omega) W)
  obtain ⟨W1, hW1⟩ : ∃ W1, ((w.alloc (.cells #[.int .i64 (m : Int), .int .i64 (x : Int)] 25)).alloc (.cells #[.int .i64 0, .int .i64 0, .int .i64 0, .int .i64 0, .int .i64 0] 116)).alloc (.cells #[.int .i64 0, .int .i64 0, .int .i64 0, .int .i64 0, .int .i64 0] 116) = W1 := ⟨_, rfl⟩
  have hM1 : LvM w.heap.size (m : Int) x (fun _ => 0) (fun _ => 0) W1 := by
    rw [← hW1]
    refine ⟨by simp [go_sem], by simp [go_sem], ⟨fun j hj => ?_, fun j hj => by simp [go_sem]⟩, ⟨fun j hj => ?_, fun j hj => by simp [go_sem]⟩⟩
    · rcases (show j = 0 ∨ j = 1 ∨ j = 2 ∨ j = 3 ∨ j = 4 by omega) with rfl | rfl | rfl | rfl | rfl <;> simp [go_sem]
    · rcases (show j = 0 ∨ j = 1 ∨ j = 2 ∨ j = 3 ∨ j = 4 by omega) with rfl | rfl | rfl | rfl | rfl <;> simp [go_sem]
  have hB1 : Below w.heap.size w W1 := by rw [← hW1]; exact balloc (balloc (bnew _ _) _) _
  have p0 := hM1.c0
  refine (callsIn_wide (n := 3)).1 ?_
  refine callsIn_of_wp_marks Try.func114 rfl trivial ?_ rfl
  simp only [Try.ntmps114, List.size_toArray, List.length_cons, List.length_nil, Nat.reduceAdd, Nat.reduceSub, Array.replicate_succ, Array.replicate_zero, List.push_toArray, List.append_toArray, List.nil_append, List.cons_append]
  gi_wp2

  clear hW1 p0
  gi_loopw [11] (fun i' wr => ∃ i : Nat, i ≤ m + 1 ∧ i' = .int .i64 i ∧ LvM w.heap.size (m : Int) x (fun j => if j < i then 1 else 0) (fun _ => 0) wr ∧ Below w.heap.size w wr) (fun i' _ => m + 1 - (intOf i').toNat)
  case atStart => exact ⟨0, by omega, rfl, hM1, hB1⟩
  case round =>
    obtain ⟨i, hi, rfl, hM, hBw⟩ := hrel
    by_cases hlt : i < m + 1
    · have ci := hM.l.c i (by omega)
      have fi := hM.l.f i (by omega)
      rw [if_neg (by omega)] at ci
      have HM := Lib.hid (hM.setL i (by omega) 1 (lo2 := fun j => if j < i + 1 then 1 else 0) fun j hj => by
        by_cases hji : j = i
        · subst hji; simp
        · by_cases h1 : j < i
          · rw [if_pos (by omega), if_neg hji, if_pos h1]
          · rw [if_neg (by omega), if_neg hji, if_neg h1])
      have HBS := Lib.hid (hBw.setCell (p := ⟨w.heap.size + 1, i, none⟩) (by show w.heap.size ≤ w.heap.size + 1; omega) (.int .i64 ((1 : Nat) : Int)))
      have hi5 : (i : Int) < 5 := by omega
      clear hM
      gi_wp2
      go_roundw
      case rel => exact ⟨i + 1, by omega, by go_num, HM.out, HBS.out⟩
      case measure => simp [intOf]; omega
    · obtain rfl : i = m + 1 := by omega
      have hM2 : LvM w.heap.size (m : Int) x (loF m x ([] : List (Row R))) (hiF x ([] : List (Row R))) wr := hM.congr (fun j _ => loF_nil m x j) (fun j _ => rfl)
      have c0 := hM.c0
      clear hM
      gi_wp2_with (refine ⟨trivial, ?_⟩; gi_at_call 135; refine (callsIn_wide.2 (rowsOf_any _ _)).mono ?_; rintro e w' ⟨rfl, rfl⟩)
      obtain ⟨W0, hW0⟩ : ∃ W0, wr.alloc (.cells #[.int .i64 (m : Int)] 2) = W0 := ⟨_, rfl⟩
      have hM3 : LvM w.heap.size (m : Int) x (loF m x ([] : List (Row R))) (hiF x ([] : List (Row R))) W0 := by rw [← hW0]; exact hM2.below (bnew _ _)
      have cM : W0.cell? ⟨wr.heap.size, 0, none⟩ = some (.int .i64 (m : Int)) := by rw [← hW0]; simp [go_sem]
      have hsz : W0.heap.size = wr.heap.size + 1 := by rw [← hW0]; simp [go_sem]
      have hB0 : Below w.heap.size w W0 := by rw [← hW0]; exact balloc hBw _
      have hge : w.heap.size ≤ wr.heap.size := hBw.size
      rw [hW0]
      clear hW0 hM2 c0 hM1 hB1 hBw
      refine wpIn_rangeFunc_ownF (α := Row R) rfl (by omega) (gf := 191) (lb := #[.pointer (some ⟨wr.heap.size, 0, none⟩)]) rfl trivial (enters_of Try.func191 (by kernel_rfl) rfl)
        (rows_stops (3 - 1) (by omega) wr.heap.size w.heap.size (m : Int) R ok.h0 ok.h4 r0 r16 ok.hR W0 (by omega) cM) belowK_t (belowK_b (by omega)) (Below.refl _ _) (fun _ => rfl)
        (fun pre W => LvM w.heap.size (m : Int) x (loF m x pre) (hiF x pre) W ∧ Below w.heap.size w W)
        (fun _ _ _ => False)
        (OwnFrom.and (Own.from (fun s A B row hs hg hr => hs.kept hg hr) _) (ownFrom_below (by omega) (by omega)))
        (fun _ _ _ _ _ hs _ _ => hs)
        ⟨hM3, hB0⟩
        (fun y => { tmps := #[.agg #[.int .i64 (m : Int), .int .i64 (x : Int)], .pointer (some ⟨w.heap.size, 0, none⟩), .pointer (some ⟨w.heap.size + 1, 0, none⟩), .pointer (some ⟨w.heap.size + 1 + 1, 0, none⟩), u4, .int .i64 (y.1 : Int), undef, undef, .pointer (some ⟨w.heap.size, 0, none⟩), .int .i64 (m : Int), .int .i64 ((m : Int) + 1), .int .i64 ((m : Int) + 1), .bool false, u13, u14, u15, u16,
          .pointer (some ⟨w.heap.size, 0, none⟩), .int .i64 (m : Int), .func (.func 191) #[] #[.pointer (some ⟨wr.heap.size, 0, none⟩)], .int .i64 (y.1 : Int), undef, undef, undef, undef, undef, undef, undef, undef, undef, undef, undef, undef, undef, undef, undef, undef, undef, undef, undef, undef, undef], defers := [] }) ?assign ?body ?done ?stop
      case assign =>
        intro l y W K hK
        unfold encRow
        gi_wp2
        exact hK
      case body =>
        clear hM3 cM hB0 hw1
        rintro l pre y W ⟨hM, hBW⟩ hlen
        have hr := y.2
        have hs := HSZ.out y.1 hr
        have HL := Lib.hid (fun j => loF_snoc m x pre y j hs)
        have HH := Lib.hid (fun j => hiF_snoc x pre y j)
        have SZ := Lib.hid (SZ0.out y.1 (by omega))
        have VR := Lib.hid (VR0.out y.1 (by omega))
        have hb1 := bitN_le x y.1
        have ha1 := loF_le m x pre (sizeN y.1)
        have hg1 := hiF_le x pre (sizeN y.1)
        have cl := hM.l.c (sizeN y.1) (by omega)
        have fl := hM.l.f (sizeN y.1) (by omega)
        have ch := hM.h.c (sizeN y.1) (by omega)
        have fh := hM.h.f (sizeN y.1) (by omega)
        have c0 := hM.c0
        have c1 := hM.c1
        have d0 := (cell_drew_own W _).trans c0
        have d1 := (cell_drew_own W _).trans c1
        have END := Lib.hid (fun w5 (hb : Below W.heap.size W w5) => (show KeepsOthers W ((w5.setCell ⟨w.heap.size + 1, sizeN y.1, none⟩ (.int .i64 ((min (loF m x pre (sizeN y.1)) (bitN x y.1) : Nat) : Int))).setCell ⟨w.heap.size + 1 + 1, sizeN y.1, none⟩ (.int .i64 ((max (hiF x pre (sizeN y.1)) (bitN x y.1) : Nat) : Int))) ∧ Below w.heap.size W ((w5.setCell ⟨w.heap.size + 1, sizeN y.1, none⟩ (.int .i64 ((min (loF m x pre (sizeN y.1)) (bitN x y.1) : Nat) : Int))).setCell ⟨w.heap.size + 1 + 1, sizeN y.1, none⟩ (.int .i64 ((max (hiF x pre (sizeN y.1)) (bitN x y.1) : Nat) : Int))) ∧ (LvM w.heap.size (m : Int) x (loF m x (pre ++ [y])) (hiF x (pre ++ [y])) ((w5.setCell ⟨w.heap.size + 1, sizeN y.1, none⟩ (.int .i64 ((min (loF m x pre (sizeN y.1)) (bitN x y.1) : Nat) : Int))).setCell ⟨w.heap.size + 1 + 1, sizeN y.1, none⟩ (.int .i64 ((max (hiF x pre (sizeN y.1)) (bitN x y.1) : Nat) : Int))) ∧ Below w.heap.size w ((w5.setCell ⟨w.heap.size + 1, sizeN y.1, none⟩ (.int .i64 ((min (loF m x pre (sizeN y.1)) (bitN x y.1) : Nat) : Int))).setCell ⟨w.heap.size + 1 + 1, sizeN y.1, none⟩ (.int .i64 ((max (hiF x pre (sizeN y.1)) (bitN x y.1) : Nat) : Int)))) from
          ⟨((kotb hb).trans (KeepsOthers.setCell _ _ _)).trans (KeepsOthers.setCell _ _ _), ((hb.mono hBW.size).setCell (p := ⟨w.heap.size + 1, sizeN y.1, none⟩) (by show w.heap.size ≤ w.heap.size + 1; omega) _).setCell (p := ⟨w.heap.size + 1 + 1, sizeN y.1, none⟩) (by show w.heap.size ≤ w.heap.size + 1 + 1; omega) _,
            ((hM.below hb).setL (sizeN y.1) (by omega) _ (fun j _ => by rw [HL.out j]; split <;> rename_i e <;> first | rw [e] | rfl)).setH (sizeN y.1) (by omega) _ (fun j _ => by rw [HH.out j]; split <;> rename_i e <;> first | rw [e] | rfl),
            ((bthen hBW hb).setCell (p := ⟨w.heap.size + 1, sizeN y.1, none⟩) (by show w.heap.size ≤ w.heap.size + 1; omega) _).setCell (p := ⟨w.heap.size + 1 + 1, sizeN y.1, none⟩) (by show w.heap.size ≤ w.heap.size + 1 + 1; omega) _⟩))
        clear hM HL HH
        generalize y.1 = r at hr hs SZ VR hb1 ha1 hg1 cl fl ch fh END ⊢
        generalize sizeN r = s at hs SZ ha1 hg1 cl fl ch fh END
        generalize bitN x r = b at VR hb1 END
        generalize loF m x pre s = a at ha1 cl END
        generalize hiF x pre s = g at hg1 ch END
        have hs5 : (s : Int) < 5 := by omega
        have hmx : Try.prog.follows .mixedOrders = true := by kernel_rfl
        have hlw : w.heap.size + 1 + 1 < W.heap.size := cell_lt ch
        gi_wp2
        refine region_round (l := l) (fun W9 => (W9.cell? ⟨w.heap.size, 0, none⟩ = some (.int .i64 (m : Int)) ∧ W9.cell? ⟨w.heap.size, 1, none⟩ = some (.int .i64 (x : Int))) ∧ Below W.heap.size W W9) hmx (by kernel_rfl) (by omega) (by rintro ⟨_, _, h⟩; exact h) ?_
        have hHeld : (W.drew.cell? ⟨w.heap.size, 0, none⟩ = some (.int .i64 (m : Int)) ∧ W.drew.cell? ⟨w.heap.size, 1, none⟩ = some (.int .i64 (x : Int))) ∧ Below W.heap.size W W.drew := ⟨⟨d0, d1⟩, (Below.refl _ _).drew⟩
        refine wpAnyH_take (i := 0) (v := ?_) rfl (by kernel_rfl) (by kernel_rfl) (by kernel_rfl) (fun _ _ _ h => h) (Or.inl ⟨by rfl, by intro w hSw; (try dsimp only at hSw); go_simp; try (with_reducible rfl)⟩) (by assumption) ?_
        try simp only [Act.put, List.setIfInBounds_toArray, List.set_cons_zero, List.set_cons_succ, List.getElem_toArray, List.getElem_cons_zero, List.getElem_cons_succ]
        refine wpAnyH_take (i := 2) (v := ?_) rfl (by kernel_rfl) (by kernel_rfl) (by kernel_rfl) (fun _ _ _ h => h) (Or.inl ⟨by rfl, by intro w hSw; (try dsimp only at hSw); go_simp; try (with_reducible rfl)⟩) (by assumption) ?_
        try simp only [Act.put, List.setIfInBounds_toArray, List.set_cons_zero, List.set_cons_succ, List.getElem_toArray, List.getElem_cons_zero, List.getElem_cons_succ]
        refine wpAnyH_take (i := 3) (v := ?_) rfl (by kernel_rfl) (by kernel_rfl) (by kernel_rfl) (fun _ _ _ h => h) (Or.inl ⟨by rfl, by intro w hSw; (try dsimp only at hSw); go_simp; try (with_reducible rfl)⟩) (by assumption) ?_
        try simp only [Act.put, List.setIfInBounds_toArray, List.set_cons_zero, List.set_cons_succ, List.getElem_toArray, List.getElem_cons_zero, List.getElem_cons_succ]
        refine wpAnyH_ready (rs := [1]) (by kernel_rfl) (by simp) ?_
        refine AllReadyH.cons rfl (fun K hK => ?_) ?_
        · go_simp
          refine (SZ.out _).mono ?_
          rintro e w4 ⟨rfl, rfl⟩
          refine hK.out _ _ (by assumption) (fun hHeld => ?_)
          clear hK K
          try simp only [Act.put, List.setIfInBounds_toArray, List.set_cons_zero, List.set_cons_succ, List.getElem_toArray, List.getElem_cons_zero, List.getElem_cons_succ]
          refine wpAnyH_ready (rs := [4]) (by kernel_rfl) (by simp) ?_
          refine AllReadyH.cons rfl (fun K hK => ?_) ?_
          · go_simp
            refine (VR.out _).mono ?_
            rintro e w5 ⟨rfl, hb5⟩
            refine hK.out _ _ (⟨⟨kc hb5 hHeld.1.1, kc hb5 hHeld.1.2⟩, bthen hHeld.2 hb5⟩) (fun hHeld => ?_)
            clear hK K
            try simp only [Act.put, List.setIfInBounds_toArray, List.set_cons_zero, List.set_cons_succ, List.getElem_toArray, List.getElem_cons_zero, List.getElem_cons_succ]
            refine wpAnyH_take (i := 5) (v := ?_) rfl (by kernel_rfl) (by kernel_rfl) (by kernel_rfl) (fun _ _ _ h => h) (Or.inl ⟨by rfl, by intro w hSw; (try dsimp only at hSw); go_simp; try (with_reducible rfl)⟩) (by assumption) ?_
            try simp only [Act.put, List.setIfInBounds_toArray, List.set_cons_zero, List.set_cons_succ, List.getElem_toArray, List.getElem_cons_zero, List.getElem_cons_succ]
            refine wpAnyH_take (i := 6) (v := ?_) rfl (by kernel_rfl) (by kernel_rfl) (by kernel_rfl) (fun _ _ _ h => h) (Or.inl ⟨by rfl, by intro w hSw; (try dsimp only at hSw); go_simp; try (with_reducible rfl)⟩) (by assumption) ?_
            try simp only [Act.put, List.setIfInBounds_toArray, List.set_cons_zero, List.set_cons_succ, List.getElem_toArray, List.getElem_cons_zero, List.getElem_cons_succ]
            refine wpAnyH_done (by kernel_rfl) ?_ _
            clear hHeld
            have hbW := Lib.hid (bthen (Below.refl _ _).drew hb5 : Below W.heap.size W w5)
            have cl5 := kc hbW.out cl
            have fl5 := kf hbW.out cl fl
            have ch5 := kc hbW.out ch
            have fh5 := kf hbW.out ch fh
            clear hb5 cl fl ch fh c0 c1 d0 d1
            have E := END.out w5 hbW.out
            clear END
            gi_wp2
            all_goals
              first | rw [show min a b = a from by omega] at E | rw [show min a b = b from by omega] at E
            all_goals
              first | rw [show max g b = g from by omega] at E | rw [show max g b = b from by omega] at E
            all_goals exact E
          exact AllReadyH.nil
        exact AllReadyH.nil
      case done =>
        clear hM3 cM hB0
        rintro D ys W hD rfl ⟨hM, hB⟩ hK
        generalize hlo : loF m x (upto r0 R) = lo at hM
        generalize hhh : hiF x (upto r0 R) = hh at hM
        have l0 := hM.l.c 0 (by decide)
        have l1 := hM.l.c 1 (by decide)
        have l2 := hM.l.c 2 (by decide)
        have l3 := hM.l.c 3 (by decide)
        have l4 := hM.l.c 4 (by decide)
        have k0 := hM.h.c 0 (by decide)
        have k1 := hM.h.c 1 (by decide)
        have k2 := hM.h.c 2 (by decide)
        have k3 := hM.h.c 3 (by decide)
        have k4 := hM.h.c 4 (by decide)
        have lf0 := hM.l.f 0 (by decide)
        have lf1 := hM.l.f 1 (by decide)
        have lf2 := hM.l.f 2 (by decide)
        have lf3 := hM.l.f 3 (by decide)
        have lf4 := hM.l.f 4 (by decide)
        have kf0 := hM.h.f 0 (by decide)
        have kf1 := hM.h.f 1 (by decide)
        have kf2 := hM.h.f 2 (by decide)
        have kf3 := hM.h.f 3 (by decide)
        have kf4 := hM.h.f 4 (by decide)
        have sm : ∀ (f : Nat → Nat) (i j : Nat), f j = if j = i then f i else f j := fun f i j => by
          split
          · rename_i e; rw [e]
          · rfl
        have hX := Lib.hid ((((((((((((hM.setL 0 (by decide) (lo 0) (lo2 := lo) (fun j _ => sm lo 0 j)).setL 1 (by decide) (lo 1) (lo2 := lo) (fun j _ => sm lo 1 j)).setL 2 (by decide) (lo 2) (lo2 := lo) (fun j _ => sm lo 2 j)).setL 3 (by decide) (lo 3) (lo2 := lo) (fun j _ => sm lo 3 j)).setL 4 (by decide) (lo 4) (lo2 := lo) (fun j _ => sm lo 4 j)).setH 0 (by decide) (hh 0) (hi2 := hh) (fun j _ => sm hh 0 j)).setH 1 (by decide) (hh 1) (hi2 := hh) (fun j _ => sm hh 1 j)).setH 2 (by decide) (hh 2) (hi2 := hh) (fun j _ => sm hh 2 j)).setH 3 (by decide) (hh 3) (hi2 := hh) (fun j _ => sm hh 3 j)).setH 4 (by decide) (hh 4) (hi2 := hh) (fun j _ => sm hh 4 j))).below (Below.refl _ _).drew)
        have hXB := Lib.hid ((((((((((((hB.setCell (p := ⟨w.heap.size + 1, 0, none⟩) (by show w.heap.size ≤ w.heap.size + 1; omega) _).setCell (p := ⟨w.heap.size + 1, 1, none⟩) (by show w.heap.size ≤ w.heap.size + 1; omega) _).setCell (p := ⟨w.heap.size + 1, 2, none⟩) (by show w.heap.size ≤ w.heap.size + 1; omega) _).setCell (p := ⟨w.heap.size + 1, 3, none⟩) (by show w.heap.size ≤ w.heap.size + 1; omega) _).setCell (p := ⟨w.heap.size + 1, 4, none⟩) (by show w.heap.size ≤ w.heap.size + 1; omega) _).setCell (p := ⟨w.heap.size + 1 + 1, 0, none⟩) (by show w.heap.size ≤ w.heap.size + 1 + 1; omega) _).setCell (p := ⟨w.heap.size + 1 + 1, 1, none⟩) (by show w.heap.size ≤ w.heap.size + 1 + 1; omega) _).setCell (p := ⟨w.heap.size + 1 + 1, 2, none⟩) (by show w.heap.size ≤ w.heap.size + 1 + 1; omega) _).setCell (p := ⟨w.heap.size + 1 + 1, 3, none⟩) (by show w.heap.size ≤ w.heap.size + 1 + 1; omega) _).setCell (p := ⟨w.heap.size + 1 + 1, 4, none⟩) (by show w.heap.size ≤ w.heap.size + 1 + 1; omega) _) : Below w.heap.size w ((((((((((W.setCell ⟨w.heap.size + 1, 0, none⟩ (.int .i64 (lo 0 : Int))).setCell ⟨w.heap.size + 1, 1, none⟩ (.int .i64 (lo 1 : Int))).setCell ⟨w.heap.size + 1, 2, none⟩ (.int .i64 (lo 2 : Int))).setCell ⟨w.heap.size + 1, 3, none⟩ (.int .i64 (lo 3 : Int))).setCell ⟨w.heap.size + 1, 4, none⟩ (.int .i64 (lo 4 : Int))).setCell ⟨w.heap.size + 1 + 1, 0, none⟩ (.int .i64 (hh 0 : Int))).setCell ⟨w.heap.size + 1 + 1, 1, none⟩ (.int .i64 (hh 1 : Int))).setCell ⟨w.heap.size + 1 + 1, 2, none⟩ (.int .i64 (hh 2 : Int))).setCell ⟨w.heap.size + 1 + 1, 3, none⟩ (.int .i64 (hh 3 : Int))).setCell ⟨w.heap.size + 1 + 1, 4, none⟩ (.int .i64 (hh 4 : Int)))).drew)
        have hXK := Lib.hid ((((((((((((KeepsOthers.setCell W ⟨w.heap.size + 1, 0, none⟩ _).trans (KeepsOthers.setCell _ ⟨w.heap.size + 1, 1, none⟩ _)).trans (KeepsOthers.setCell _ ⟨w.heap.size + 1, 2, none⟩ _)).trans (KeepsOthers.setCell _ ⟨w.heap.size + 1, 3, none⟩ _)).trans (KeepsOthers.setCell _ ⟨w.heap.size + 1, 4, none⟩ _)).trans (KeepsOthers.setCell _ ⟨w.heap.size + 1 + 1, 0, none⟩ _)).trans (KeepsOthers.setCell _ ⟨w.heap.size + 1 + 1, 1, none⟩ _)).trans (KeepsOthers.setCell _ ⟨w.heap.size + 1 + 1, 2, none⟩ _)).trans (KeepsOthers.setCell _ ⟨w.heap.size + 1 + 1, 3, none⟩ _)).trans (KeepsOthers.setCell _ ⟨w.heap.size + 1 + 1, 4, none⟩ _)) : KeepsOthers W ((((((((((W.setCell ⟨w.heap.size + 1, 0, none⟩ (.int .i64 (lo 0 : Int))).setCell ⟨w.heap.size + 1, 1, none⟩ (.int .i64 (lo 1 : Int))).setCell ⟨w.heap.size + 1, 2, none⟩ (.int .i64 (lo 2 : Int))).setCell ⟨w.heap.size + 1, 3, none⟩ (.int .i64 (lo 3 : Int))).setCell ⟨w.heap.size + 1, 4, none⟩ (.int .i64 (lo 4 : Int))).setCell ⟨w.heap.size + 1 + 1, 0, none⟩ (.int .i64 (hh 0 : Int))).setCell ⟨w.heap.size + 1 + 1, 1, none⟩ (.int .i64 (hh 1 : Int))).setCell ⟨w.heap.size + 1 + 1, 2, none⟩ (.int .i64 (hh 2 : Int))).setCell ⟨w.heap.size + 1 + 1, 3, none⟩ (.int .i64 (hh 3 : Int))).setCell ⟨w.heap.size + 1 + 1, 4, none⟩ (.int .i64 (hh 4 : Int)))).trans (kotb (Below.refl _ _).drew))
        clear hM
        gi_wp2
        gi_region
        obtain ⟨W8, hW8⟩ : ∃ W8, ((((((((((W.setCell ⟨w.heap.size + 1, 0, none⟩ (.int .i64 (lo 0 : Int))).setCell ⟨w.heap.size + 1, 1, none⟩ (.int .i64 (lo 1 : Int))).setCell ⟨w.heap.size + 1, 2, none⟩ (.int .i64 (lo 2 : Int))).setCell ⟨w.heap.size + 1, 3, none⟩ (.int .i64 (lo 3 : Int))).setCell ⟨w.heap.size + 1, 4, none⟩ (.int .i64 (lo 4 : Int))).setCell ⟨w.heap.size + 1 + 1, 0, none⟩ (.int .i64 (hh 0 : Int))).setCell ⟨w.heap.size + 1 + 1, 1, none⟩ (.int .i64 (hh 1 : Int))).setCell ⟨w.heap.size + 1 + 1, 2, none⟩ (.int .i64 (hh 2 : Int))).setCell ⟨w.heap.size + 1 + 1, 3, none⟩ (.int .i64 (hh 3 : Int))).setCell ⟨w.heap.size + 1 + 1, 4, none⟩ (.int .i64 (hh 4 : Int))).drew = W8 := ⟨_, rfl⟩
        rw [hW8] at hX hXB hXK ⊢
        clear hW8 l0 l1 l2 l3 l4 k0 k1 k2 k3 k4 lf0 lf1 lf2 lf3 lf4 kf0 kf1 kf2 kf3 kf4
        have hK' := hXK.out.same D _ hK rfl
        have hL := hX.out.kept (grownBy_putObj' _ D (.deferred none)) (fun r e => by cases e; exact ⟨_, hK', rfl⟩)
        have l0 := hL.l.c 0 (by decide)
        have l1 := hL.l.c 1 (by decide)
        have l2 := hL.l.c 2 (by decide)
        have l3 := hL.l.c 3 (by decide)
        have l4 := hL.l.c 4 (by decide)
        have k0 := hL.h.c 0 (by decide)
        have k1 := hL.h.c 1 (by decide)
        have k2 := hL.h.c 2 (by decide)
        have k3 := hL.h.c 3 (by decide)
        have k4 := hL.h.c 4 (by decide)
        clear hL
        gi_wp2
        refine ⟨by simp, .inl ⟨_, _, rfl, run_takeDeferred hK', ?_⟩⟩
        exact ⟨.tuple #[arr5 lo, arr5 hh], by simp [results, Try.results114, go_sem, l0, l1, l2, l3, l4, k0, k1, k2, k3, k4, arr5], by rw [← hlo, ← hhh], hXB.out.trans (belowK_b (w := w) (Nat.le_refl _) _ D _ _ (by omega) hK' rfl rfl)⟩
      case stop =>
        rintro D c pre W _ _ h _
        exact h.elim
end Go.Proofs.Ytbdhlokbpbiijaa

/- ZB:
  DerivativeBy in both packages. -/
namespace Go.Proofs.Ytbdhlokbpbiijaa
open Go.RowKit
set_option linter.unusedVariables false
set_option linter.unusedSimpArgs false

/-- The value of the derivative by a at a row. -/
def derV (x a r : Nat) : Nat := (bitN x r + bitN x (r ^^^ a)) % 2
theorem derV_le (x a r : Nat) : derV x a r ≤ 1 := by unfold derV; omega

theorem xor_num (r a : Nat) (hr : r < 16) (ha : a < 16) : bits .xor .i64 (r : Int) (a : Int) = ((r ^^^ a : Nat) : Int) := by
  have h : r ^^^ a < 2 ^ 4 := Nat.xor_lt_two_pow (show r < 2 ^ 4 by omega) (show a < 2 ^ 4 by omega)
  show IntKind.i64.wrap ((BitVec.ofInt 64 (r : Int) ^^^ BitVec.ofInt 64 (a : Int)).toNat : Int) = _
  rw [BitVec.ofInt_natCast, BitVec.ofInt_natCast, BitVec.toNat_xor, BitVec.toNat_ofNat, BitVec.toNat_ofNat, Nat.mod_eq_of_lt (by omega : r < 2 ^ 64), Nat.mod_eq_of_lt (by omega : a < 2 ^ 64)]
  exact wrap64_small (by omega) (by omega)

theorem valueInRow_int (n : Int) (x : Nat) (hx : x < 2 ^ 62) (I : Int) (h0 : 0 ≤ I) (h1 : I < 62) (w : World) :
    Calls Try.prog 97 #[.agg #[.int .i64 n, .int .i64 (x : Int)], .int .i64 I] w fun e w' => e = .returned (.int .i64 (bitN x I.toNat : Int)) ∧ Below w.heap.size w w' := by
  have h := valueInRow_any n x I.toNat hx (by omega) w
  rwa [show ((I.toNat : Nat) : Int) = I by omega] at h
theorem l01At_int' (n : Int) (x : Nat) (hx : x < 2 ^ 62) (I : Int) (h0 : 0 ≤ I) (h1 : I < 62) (w : World) :
    Calls Try.prog 115 #[.agg #[.int .i64 n, .int .i64 (x : Int)], .int .i64 I] w fun e w' => e = .returned (.int .i64 (bitN x I.toNat : Int)) ∧ Below w.heap.size w w' := by
  have h := l01At_any n x I.toNat hx (by omega) w
  rwa [show ((I.toNat : Nat) : Int) = I by omega] at h

theorem step_heldD {W w' W0 : World} {a b c : Addr} {u v z : Value} (hb : Below W.heap.size W w') (h : ((W.cell? a = some u ∧ W.cell? b = some v) ∧ W.cell? c = some z) ∧ Below W0.heap.size W0 W) :
    ((w'.cell? a = some u ∧ w'.cell? b = some v) ∧ w'.cell? c = some z) ∧ Below W0.heap.size W0 w' := ⟨⟨⟨kc hb h.1.1.1, kc hb h.1.1.2⟩, kc hb h.1.2⟩, bthen h.2 hb⟩

/-- The boxes of the program's derivative. -/
theorem derBox (n b a : Int) (w : World) : ∃ W1, ((w.alloc (.cells #[.int .i64 n, .int .i64 b] 25)).alloc (.cells #[.int .i64 a] 2)).alloc (.cells #[.int .i64 0, .int .i64 0] 25) = W1 ∧
    (W1.cell? ⟨w.heap.size, 0, none⟩ = some (.int .i64 n) ∧ W1.cell? ⟨w.heap.size, 1, none⟩ = some (.int .i64 b) ∧ W1.cell? ⟨w.heap.size + 1, 0, none⟩ = some (.int .i64 a)) ∧
    (W1.cell? ⟨w.heap.size + 1 + 1, 0, none⟩ = some (.int .i64 0) ∧ W1.cell? ⟨w.heap.size + 1 + 1, 1, none⟩ = some (.int .i64 0)) ∧
    (W1.frozen? ⟨w.heap.size + 1 + 1, 0, none⟩ = false ∧ W1.frozen? ⟨w.heap.size + 1 + 1, 1, none⟩ = false) ∧ Below w.heap.size w W1 :=
  ⟨_, rfl, ⟨by simp [go_sem], by simp [go_sem], by simp [go_sem]⟩, ⟨by simp [go_sem], by simp [go_sem]⟩, ⟨by simp [go_sem], by simp [go_sem]⟩, balloc (balloc (bnew _ _) _) _⟩

/-- An append to a list of one's own, within a region that draws. -/
theorem step_append_own {P : Program} (w : World) {ops : Array Oper} {o : Oper} {a : Act} {K : Act → World → Prop} {Q : Exit → Act → World → Prop} {E : Prop}
    (hg : o.guard = none) (s x : Operand) (t : TypeId) (hop : o.op = Op.call { callee := Callee.builtin Builtin.append, args := #[s, x], argTypes := #[t, t] })
    (base : Nat) (e : TypeId) (i : TypeInfo) (z : Value) (size bytes : Nat) (h1 : P.underlying t = some (.slice e)) (h2 : P.info? e = some i) (h3 : i.zero = some z) (h4 : i.size = size) (h5 : i.bytes = bytes) (h6 : z.cells.size = size) (h7 : 0 < size)
    (v : Value) (k : Nat) (xs : List Value) (hs : a.eval s = v) (hown : w.ownsRow base e size v k xs) (ad : Addr) (m c : Nat) (news : List Value) (hx : a.eval x = .slice (some ad) m c) (hn : news.length = m * size)
    (hc : ∀ j u, news[j]? = some u → w.cell? (ad.add j) = some u) (h1c : ∀ u ∈ news, u.oneCell' = true) (b1 : k + m ≤ maxLen) (b2 : (k + m) * bytes ≤ 140737488355328) (b3 : base ≤ w.heap.size)
    (hK : ∀ v' w', w'.ownsRow base e size v' (k + m) (xs ++ news) → w.grownBy w' v.ownBlock → K (a.put o.dst v') w') :
    if Region.wanted o (yielded ops a.tmps) = true then Oper.wp P o a w K Q else E := by
  rw [if_pos (by simp [Region.wanted, hg])]
  obtain ⟨v', w', hrun, r1, r2, _⟩ := run_append_own (P := P) w base t o.type e i z size bytes h1 h2 h3 h4 h5 h6 h7 v k xs hown ad m c news hn hc h1c b1 b2 b3
  unfold Oper.wp
  simp [execOp, hop, resolve, invoke, builtin, hs, hx, hrun, Result.andThen]
  exact hK _ _ r1 r2

/-- The boxes of the model's derivative. -/
theorem derBoxS (n b : Int) (w : World) : ∃ W1, (w.alloc (.cells #[.int .i64 n, .int .i64 b] 25)).alloc (.cells #[.int .i64 0, .int .i64 0] 25) = W1 ∧
    (W1.cell? ⟨w.heap.size, 0, none⟩ = some (.int .i64 n) ∧ W1.cell? ⟨w.heap.size, 1, none⟩ = some (.int .i64 b)) ∧
    (W1.cell? ⟨w.heap.size + 1, 0, none⟩ = some (.int .i64 0) ∧ W1.cell? ⟨w.heap.size + 1, 1, none⟩ = some (.int .i64 0)) ∧
    (W1.frozen? ⟨w.heap.size + 1, 0, none⟩ = false ∧ W1.frozen? ⟨w.heap.size + 1, 1, none⟩ = false) ∧ Below w.heap.size w W1 :=
  ⟨_, rfl, ⟨by simp [go_sem], by simp [go_sem]⟩, ⟨by simp [go_sem], by simp [go_sem]⟩, ⟨by simp [go_sem], by simp [go_sem]⟩, balloc (bnew _ _) _⟩

end Go.Proofs.Ytbdhlokbpbiijaa

/- MO17:
  LevelsOf of the model; the mathematics of levels. -/
namespace Go.Proofs.Ytbdhlokbpbiijaa
open Go.RowKit
set_option linter.unusedVariables false
set_option linter.unusedSimpArgs false

/-- All rows of a size have one value. -/
def symB (x R : Nat) : Bool := allLt R fun r => bitN x r == lev x (sizeN r)
theorem symB_iff {x R : Nat} : symB x R = true ↔ ∀ r, r < R → bitN x r = lev x (sizeN r) := by unfold symB; rw [allLt_iff]; simp
theorem lev_le (x s : Nat) : lev x s ≤ 1 := bitN_le _ _
theorem size_full : ∀ s, s ≤ 4 → sizeN (2 ^ s - 1) = s := by
  intro s hs
  rcases (show s = 0 ∨ s = 1 ∨ s = 2 ∨ s = 3 ∨ s = 4 by omega) with rfl | rfl | rfl | rfl | rfl <;> decide
theorem full_lt {s m R : Nat} (hs : s ≤ m) (he : R = 2 ^ m) : 2 ^ s - 1 < R := by
  have := Nat.pow_le_pow_right (show 1 ≤ 2 by decide) hs
  have := Nat.pow_pos (n := s) (show 0 < 2 by decide)
  omega

theorem mem_upto {R : Nat} (h : 0 < R) (r : Nat) (hr : r < R) : ∃ y : Row R, y ∈ upto h R ∧ y.1 = r := ⟨rowAt h r, List.mem_map.2 ⟨r, List.mem_range.2 hr, rfl⟩, rowAt_val h hr⟩

theorem loF_one {R : Nat} (r0 : 0 < R) {m x s : Nat} (hs : s ≤ m) : loF m x (upto r0 R) s = 1 ↔ ∀ r, r < R → sizeN r = s → bitN x r = 1 := by
  unfold loF
  rw [if_pos hs]
  have e : ∀ b : Bool, b.toNat = 1 ↔ b = true := by decide
  rw [e, List.all_eq_true]
  constructor
  · intro h r hr hrs
    obtain ⟨y, hy, rfl⟩ := mem_upto r0 r hr
    have := h y hy
    simpa [hrs] using this
  · intro h y _
    by_cases e : sizeN y.1 = s
    · have := h y.1 y.2 e
      simp [this]
    · simp [e]
theorem hiF_one {R : Nat} (r0 : 0 < R) {x s : Nat} : hiF x (upto r0 R) s = 1 ↔ ∃ r, r < R ∧ sizeN r = s ∧ bitN x r = 1 := by
  unfold hiF
  have e : ∀ b : Bool, b.toNat = 1 ↔ b = true := by decide
  rw [e, List.any_eq_true]
  constructor
  · rintro ⟨y, hy, h⟩
    exact ⟨y.1, y.2, by simpa using h⟩
  · rintro ⟨r, hr, hrs, hb⟩
    obtain ⟨y, hy, rfl⟩ := mem_upto r0 r hr
    exact ⟨y, hy, by simp [hrs, hb]⟩

theorem sym_yes {R m x : Nat} (r0 : 0 < R) (h4 : m ≤ 4) (he : R = 2 ^ m) (h : symB x R = true) : ∀ s, s < 5 → loF m x (upto r0 R) s = hiF x (upto r0 R) s ∧ (s < m + 1 → loF m x (upto r0 R) s = lev x s) := by
  intro s hs5
  have H := symB_iff.1 h
  have l1 := loF_le m x (upto r0 R) s
  have u1 := hiF_le x (upto r0 R) s
  have v1 := lev_le x s
  by_cases hsm : s ≤ m
  · have F1 := size_full s (by omega)
    have F2 := full_lt hsm he
    rcases (show lev x s = 1 ∨ lev x s = 0 by omega) with hv | hv
    · have A : loF m x (upto r0 R) s = 1 := (loF_one r0 hsm).2 fun r hr hrs => by rw [H r hr, hrs, hv]
      have B : hiF x (upto r0 R) s = 1 := (hiF_one r0).2 ⟨_, F2, F1, hv⟩
      exact ⟨by omega, fun _ => by omega⟩
    · have A : ¬ loF m x (upto r0 R) s = 1 := fun c => by
        have := (loF_one r0 hsm).1 c _ F2 F1
        unfold lev at hv
        omega
      have B : ¬ hiF x (upto r0 R) s = 1 := fun c => by
        obtain ⟨r, hr, hrs, hb⟩ := (hiF_one r0).1 c
        rw [H r hr, hrs, hv] at hb
        omega
      exact ⟨by omega, fun _ => by omega⟩
  · have A : loF m x (upto r0 R) s = 0 := by unfold loF; rw [if_neg hsm]
    have B : ¬ hiF x (upto r0 R) s = 1 := fun c => by
      obtain ⟨r, hr, hrs, hb⟩ := (hiF_one r0).1 c
      have := size_lt m (by omega) r (by rw [← he]; exact hr)
      omega
    exact ⟨by omega, fun c => absurd c (by omega)⟩
theorem sym_no {R m x : Nat} (r0 : 0 < R) (h4 : m ≤ 4) (he : R = 2 ^ m) (h : symB x R = false) : ¬ ∀ s, s < 5 → loF m x (upto r0 R) s = hiF x (upto r0 R) s := by
  intro hall
  have : symB x R = true := symB_iff.2 fun r hr => by
    have hs := size_lt m (by omega) r (by rw [← he]; exact hr)
    have E := hall (sizeN r) (by omega)
    have F1 := size_full (sizeN r) (by omega)
    have F2 := full_lt hs he
    have b1 := bitN_le x r
    have v1 := lev_le x (sizeN r)
    have l1 := loF_le m x (upto r0 R) (sizeN r)
    rcases (show loF m x (upto r0 R) (sizeN r) = 1 ∨ loF m x (upto r0 R) (sizeN r) = 0 by omega) with c | c
    · have A := (loF_one r0 hs).1 c
      have a1 := A r hr rfl
      have a2 := A _ F2 F1
      unfold lev
      omega
    · have B : ∀ q, q < R → sizeN q = sizeN r → bitN x q = 0 := fun q hq hqs => by
        have := bitN_le x q
        rcases (show bitN x q = 1 ∨ bitN x q = 0 by omega) with d | d
        · have := (hiF_one r0).2 ⟨q, hq, hqs, d⟩
          omega
        · exact d
      have a1 := B r hr rfl
      have a2 := B _ F2 F1
      unfold lev
      omega
  rw [this] at h
  cases h

/- slices.Clone -/
theorem eql_nil_ints (w : World) (a : Addr) (n c : Nat) : (binOp .eql 27 (.slice (some a) n c) (.slice none 0 0)).run Try.prog w = .ok (.bool false) w := Go.Lib.run_eql_slice_some_nil w a n c Try.underlying27
attribute [local go_sem] eql_nil_ints

set_option maxRecDepth 100000 in
set_option maxHeartbeats 2000000 in
theorem slicesClone_any {g m cap : Nat} (v : Nat → Nat) (hm : m ≤ 5) (w : World) (hg : g < w.heap.size) (hc : ∀ j, j < m → w.cell? ⟨g, j, none⟩ = some (.int .i64 (v j : Int))) :
    Calls Try.prog 87 #[.slice (some ⟨g, 0, none⟩) m cap] w fun e w' => ∃ s, e = .returned s ∧ Owns w' w.heap.size s (natL v m) ∧ Below w.heap.size w w' := by
  obtain ⟨i0, hi, hz0, hz1, hz2⟩ := info_parts infoI
  have HC := Lib.hid hc
  have HIN : Hid (ints (natL v m) = (List.range m).map fun j => Value.int .i64 (v j : Int)) := Lib.hid (by simp [ints, natL])
  clear hc
  have hn : (ints (natL v m)).length = m * 1 := by rw [HIN.out]; simp
  go_enter Try.func87, Try.ntmps87
  go_wp2_with (at_builtin; refine wpList_append_own _ rfl _ _ 27 rfl w.heap.size 2 i0 (.int .i64 0) 1 8 Try.underlying27 hi hz0 hz1 hz2 rfl (by decide) _ 0 [] rfl (World.ownsRow_lit w #[] 0 (Nat.le_refl _) (by decide) rfl) ⟨g, 0, none⟩ m cap (ints (natL v m)) rfl hn ?cells ?one (by unfold maxLen; omega) (by omega) (by simp) ?_)
  case cells =>
    intro j u hj
    rw [HIN.out] at hj
    have hjm : j < m := by
      have := (List.getElem?_eq_some_iff.1 hj).1
      simpa using this
    have hu : u = .int .i64 (v j : Int) := by simpa [hjm] using hj.symm
    rw [hu]
    rw [show (⟨g, 0, none⟩ : Addr).add j = ⟨g, j, none⟩ by simp [Addr.add]; omega]
    exact kc (bnew _ _) (HC.out j hjm)
  case one =>
    intro u hu
    rw [HIN.out, List.mem_map] at hu
    obtain ⟨j, _, rfl⟩ := hu
    rfl
  intro v' w1 hown hgrow _
  have hB : Below w.heap.size w w1 := (bnew w (.cells #[] 2)).grown hgrow (by simp) (fun j e => by cases e; exact Nat.le_refl _)
  go_wp2
  go_ret
  exact ⟨_, rfl, by unfold Owns; rw [natL_len]; exact hown, hB⟩
end Go.Proofs.Ytbdhlokbpbiijaa

/- MO18:
  LevelsOf of the model. -/
namespace Go.Proofs.Ytbdhlokbpbiijaa
open Go.RowKit
set_option linter.unusedVariables false
set_option linter.unusedSimpArgs false

set_option maxRecDepth 100000 in
set_option maxHeartbeats 2000000 in
theorem specLevelsOf_no {n b : Int} (h : isF n b = false) (w : World) :
    Calls Try.prog 25 #[.agg #[.int .i64 n, .int .i64 b]] w (ListCodePost w.heap.size [] 1 w) := by
  go_enter Try.func25, Try.ntmps25
  go_wp2_with (go_at_call 88; refine (l01Is_is h _).mono ?_; rintro e w2 ⟨rfl, hb2⟩)
  go_ret2
  exact ⟨_, rfl, Owns.nil _ _, bthen (bnew _ _) hb2⟩

set_option maxRecDepth 100000 in
set_option maxHeartbeats 8000000 in
theorem specLevelsOf_yes {n : Int} {x R m : Nat} (ok : FOk n x R) (hm : n = (m : Int)) (L : List Int) (c : Int) (HL1 : Hid (symB x R = true → L = natL (lev x) (m + 1) ∧ c = 0)) (HL2 : Hid (symB x R = false → L = [] ∧ c = 5)) (w : World) :
    Calls Try.prog 25 #[.agg #[.int .i64 n, .int .i64 (x : Int)]] w (ListCodePost w.heap.size L c w) := by
  obtain ⟨i0, hi, hz0, hz1, hz2⟩ := info_parts infoI
  subst hm
  have h := ok.is
  have r0 := ok.r0
  have r16 := ok.r16
  have hx := ok.hx
  have m4 : m ≤ 4 := by have := ok.h4; omega
  have HSZ := Lib.hid (fun (r : Nat) (hr : r < R) => (size_lt m (by omega) r (by have := ok.he; rw [show ((m : Int)).toNat = m by omega] at this; rw [← this]; exact hr) : sizeN r ≤ m))
  have RW := Lib.hid (fun W => l01Rows_is ok.h0 ok.h4 ok.hR W)
  obtain ⟨W1, hW1⟩ : ∃ W1, w.alloc (.cells #[.int .i64 (m : Int), .int .i64 (x : Int)] 25) = W1 := ⟨_, rfl⟩
  have p0 : W1.cell? ⟨w.heap.size, 0, none⟩ = some (.int .i64 (m : Int)) := by rw [← hW1]; simp [go_sem]
  have p1 : W1.cell? ⟨w.heap.size, 1, none⟩ = some (.int .i64 (x : Int)) := by rw [← hW1]; simp [go_sem]
  have hB : Below w.heap.size w W1 := by rw [← hW1]; exact bnew _ _
  go_enter Try.func25, Try.ntmps25
  go_wp2_with (go_at_call 88; refine (l01Is_is h _).mono ?_; rintro e w2 ⟨rfl, hb2⟩; have q0 := kc hb2 p0; have q1 := kc hb2 p1; have hB2 := bthen hB hb2)
  clear hW1 p0 p1 hb2
  have hlt2 : w.heap.size < w2.heap.size := cell_lt q0
  go_loopw [4, 5] (fun s r' wr => ∃ k : Nat, k ≤ m + 1 ∧ r' = .int .i64 k ∧ Hid (Owns wr w2.heap.size s (natL (lev x) k)) ∧ Below w2.heap.size w2 wr)
    (fun _ r' _ => m + 1 - (intOf r').toNat)
  case atStart => exact ⟨0, by omega, rfl, Lib.hid (World.ownsRow_lit w2 #[] 0 (Nat.le_refl _) (by decide) rfl), bnew _ _⟩
  case round =>
    obtain ⟨k, hk, rfl, HOWN, hN⟩ := hrel
    have hsz := hN.size
    have u0 := kc hN q0
    have u1 := kc hN q1
    by_cases hlt : k < m + 1
    · obtain ⟨R2, hR2, r20, r216, he2⟩ := rowsN_eq (n := (k : Int)) (by omega) (by omega)
      have RK := Lib.hid (fun W => l01Rows_is (n := (k : Int)) (by omega) (by omega) (Lib.hid hR2) W)
      have hwr : IntKind.i64.wrap ((R2 : Int) - 1) = (R2 : Int) - 1 := wrap64_small (by omega) (by omega)
      have HV : Hid (bitN x (IntKind.i64.wrap ((R2 : Int) - 1)).toNat = lev x k) := Lib.hid (by
        unfold lev
        rw [hwr, show ((R2 : Int) - 1).toNat = R2 - 1 by omega, he2, show ((k : Int)).toNat = k by omega])
      have b0 : 0 ≤ IntKind.i64.wrap ((R2 : Int) - 1) := by rw [hwr]; omega
      have b1 : IntKind.i64.wrap ((R2 : Int) - 1) < 62 := by rw [hwr]; omega
      have hlen := natL_len (lev x) k
      have HS := Lib.hid (natL_succ (lev x) k)
      clear hR2 he2 hwr r20 r216
      go_wp2
      have HD := Lib.hid (show Owns wr.drew w2.heap.size _ (natL (lev x) k) from HOWN.out)
      have hND := hN.drew
      have d0 := (cell_drew_own wr _).trans u0
      have d1 := (cell_drew_own wr _).trans u1
      clear HOWN hN
      go_region_law (first
        | (refine step_append_own _ rfl _ _ 27 rfl w2.heap.size 2 i0 (.int .i64 0) 1 8 Try.underlying27 hi hz0 hz1 hz2 rfl (by decide) _ _ _ rfl (O6.alloc _) ⟨w5.heap.size, 0, none⟩ 1 1 [.int .i64 (lev x k : Int)] rfl rfl (by rw [← HV.out]; exact cell_one_new _ _ _) (one_cell_int _) (by unfold maxLen; omega) (by omega) (by simp; omega) ?_; intro v' w1 hown' hgrow)
        | (go_simp; go_at_call 116; refine (RK.out _).mono ?_; rintro e w' ⟨rfl, rfl⟩)
        | (go_simp; go_at_call 115; refine (l01At_int' _ _ hx _ (by omega) (by omega) _).mono ?_; rintro e w5 ⟨rfl, hb5⟩; have N5 := bthen hND hb5; have hs5 := N5.size; have O6 : World.ownsRow _ _ _ _ _ _ _ := HD.out.below hb5))
      all_goals
        have hN' := (balloc N5 (.cells #[.int .i64 (lev x k : Int)] 2)).grown (by rw [HV.out] at hgrow; exact hgrow) (by simp; omega) (fun j e => (O6.lt j e).1)
        clear hgrow O6 N5
        go_wp2
        go_roundw
        case rel => exact ⟨k + 1, by omega, by go_num, Lib.hid (by rw [HS.out]; unfold Owns; rw [ints_snoc, List.length_append]; exact hown'), hN'⟩
        case measure => simp [intOf]; omega
    · have HK : Hid (k = m + 1) := Lib.hid (by omega)
      have HOWN0 := HOWN
      obtain ⟨g, cap, rfl, hg, hc⟩ := owned_cells (by omega) HOWN.out
      have hBN := bthen hB2 hN
      have hdec : decide ((k : Int) ≤ (m : Int)) = false := decide_eq_false (by omega)
      have hdec2 : decide (k ≤ m) = false := decide_eq_false (by omega)
      go_wp2
      clear hdec hdec2
      clear HOWN hN
      go_loopw [6] (fun r' w4 => ∃ r : Nat, r ≤ R ∧ r' = .int .i64 r ∧ Hid (∀ j, j < r → bitN x j = lev x (sizeN j)) ∧ Below wr.heap.size wr w4) (fun r' _ => R - (intOf r').toNat)
      case atStart => exact ⟨0, by omega, rfl, Lib.hid (fun j hj => absurd hj (Nat.not_lt_zero _)), Below.refl _ _⟩
      case round =>
        obtain ⟨r, hr, rfl, HJ, hN4⟩ := hrel
        have y0 := kc hN4 u0
        have y1 := kc hN4 u1
        by_cases hlt2 : r < R
        · have hsz2 := HSZ.out r hlt2
          have hcell := kc hN4 (hc.out (sizeN r) (by omega))
          have AT := Lib.hid (fun W => l01At_any (m : Int) x r hx (by omega) W)
          have SZ := Lib.hid (fun W => l03Size_any r (by omega) W)
          have v1 := bitN_le x r
          have v2 := lev_le x (sizeN r)
          have HNX : bitN x r = lev x (sizeN r) → Hid (∀ j, j < r + 1 → bitN x j = lev x (sizeN j)) := fun e => Lib.hid fun j hj => by
            by_cases hjr : j = r
            · rw [hjr, e]
            · exact HJ.out j (by omega)
          have HNO : bitN x r ≠ lev x (sizeN r) → Hid (L = [] ∧ c = 5) := fun e => Lib.hid (HL2.out (by
            cases hs : symB x R
            · rfl
            · exact absurd (symB_iff.1 hs r hlt2) e))
          have hBN4 := bthen hBN hN4
          generalize sizeN r = sz at hsz2 hcell SZ v2 HNX HNO
          generalize lev x sz = lv at hcell v2 HNX HNO
          generalize bitN x r = bv at AT v1 HNX HNO
          clear hc HJ HOWN0
          go_wp2_with (first
            | (go_at_call 116; refine (RW.out _).mono ?_; rintro e w' ⟨rfl, rfl⟩)
            | (go_at_call 117; refine (SZ.out _).mono ?_; rintro e w' ⟨rfl, rfl⟩)
            | (go_at_call 115; refine (AT.out _).mono ?_; rintro e w5 ⟨rfl, hb5⟩; have c5 := kc hb5 hcell; have N5 := bthen hN4 hb5; have M5 := bthen hBN4 hb5))
          · rename_i hne
            have e : bv ≠ lv := by
              intro e
              rw [e] at hne
              simp at hne
            have HL := (HNO e).out
            go_ret2
            rw [HL.1, HL.2]
            exact ⟨_, rfl, Owns.nil _ _, M5⟩
          · rename_i hne
            have e : bv = lv := by
              have : (bv : Int) = (lv : Int) := by simpa using hne
              omega
            have HX := HNX e
            go_roundw
            case rel => exact ⟨r + 1, by omega, by go_num, HX, N5⟩
            case measure => simp [intOf]; omega
        · obtain rfl : r = R := by omega
          have HL := HL1.out (symB_iff.2 HJ.out)
          have hO := Lib.hid ((HOWN0.out.mono hB2.size).below hN4)
          have hBE := bthen hBN hN4
          clear HOWN0 hc HJ hN4
          go_wp2_with (go_at_call 116; refine (RW.out _).mono ?_; rintro e w' ⟨rfl, rfl⟩)
          go_ret2
          rw [HL.1, HL.2, ← HK.out]
          exact ⟨_, rfl, hO.out, hBE⟩
end Go.Proofs.Ytbdhlokbpbiijaa

/- MO19:
  LevelsOf of the program, and both. -/
namespace Go.Proofs.Ytbdhlokbpbiijaa
open Go.RowKit
set_option linter.unusedVariables false
set_option linter.unusedSimpArgs false

def eq5 (a b : Nat → Nat) : Bool := (a 0 == b 0) && ((a 1 == b 1) && ((a 2 == b 2) && ((a 3 == b 3) && (a 4 == b 4))))
theorem eq5_iff (a b : Nat → Nat) : eq5 a b = true ↔ ∀ s, s < 5 → a s = b s := by
  unfold eq5
  simp only [Bool.and_eq_true, beq_iff_eq]
  constructor
  · rintro ⟨h0, h1, h2, h3, h4⟩ s hs
    rcases (show s = 0 ∨ s = 1 ∨ s = 2 ∨ s = 3 ∨ s = 4 by omega) with rfl | rfl | rfl | rfl | rfl <;> assumption
  · intro h
    exact ⟨h 0 (by decide), h 1 (by decide), h 2 (by decide), h 3 (by decide), h 4 (by decide)⟩

theorem equal_ints (w : World) (d : Nat) (a b : Nat) : (Op.equalIn (d + 1) 2 (.int .i64 (a : Int)) (.int .i64 (b : Int))).run Try.prog w = .ok (a == b) w := by
  have h : ((a : Int) == (b : Int)) = (a == b) := by
    rw [Bool.eq_iff_iff, beq_iff_eq, beq_iff_eq]; omega
  simp [Op.equalIn, run_underlying Try.underlying2, h]

theorem items_step (d : Nat) (xs ys : Array Value) (j p q : Nat) (is : List Nat) (w : World) (hx : xs[j]? = some (.int .i64 (p : Int))) (hy : ys[j]? = some (.int .i64 (q : Int))) :
    (Op.eqItems (d + 1) 2 1 xs ys (j :: is)).run Try.prog w = if (p == q) = true then (Op.eqItems (d + 1) 2 1 xs ys is).run Try.prog w else .ok false w := by
  have hp : Try.prog.plainKey 2 = true := by kernel_rfl
  have P : ∀ (xs : Array Value) (j : Nat) (v : Value), xs[j]? = some v → (part 2 xs j).run Try.prog w = .ok v w := fun xs j v hx => run_part_plain w hp hx
  simp only [Op.eqItems, Sem.run_bind, Nat.mul_one]
  rw [P _ j _ hx]
  simp only [Result.andThen_ok]
  rw [P _ j _ hy]
  simp only [Result.andThen_ok, equal_ints]
  cases p == q <;> simp

theorem neq_arr5 (a b : Nat → Nat) (w : World) : (binOp .neq 116 (arr5 a) (arr5 b)).run Try.prog w = .ok (.bool (!(eq5 a b))) w := by
  obtain ⟨i0, hi, hz0, hz1, hz2⟩ := info_parts infoI
  have hc : Try.prog.cellsOf 2 = 1 := by kernel_rfl
  have h : ∀ d : Nat, (Op.equalIn (d + 1 + 1) 116 (arr5 a) (arr5 b)).run Try.prog w = .ok (eq5 a b) w := fun d => by
    unfold arr5
    rw [run_equalIn_array w (d + 1) _ _ Try.underlying116 hi, hc, show List.range 5 = [0, 1, 2, 3, 4] from rfl,
      items_step d _ _ 0 (a 0) (b 0) _ w rfl rfl, items_step d _ _ 1 (a 1) (b 1) _ w rfl rfl, items_step d _ _ 2 (a 2) (b 2) _ w rfl rfl, items_step d _ _ 3 (a 3) (b 3) _ w rfl rfl, items_step d _ _ 4 (a 4) (b 4) _ w rfl rfl]
    unfold eq5
    simp only [Op.eqItems]
    cases a 0 == b 0 <;> cases a 1 == b 1 <;> cases a 2 == b 2 <;> cases a 3 == b 3 <;> cases a 4 == b 4 <;> simp
  unfold arr5 at h ⊢
  simp only [binOp]
  simp only [Op.equal, Op.maxDepth, Sem.run_bind]
  rw [h 9998]
  simp

theorem slice_lev (m g : Nat) (hm : m ≤ 4) (w : World) : (Instr.sliceAt 116 (.pointer (some ⟨g, 0, none⟩)) none (some (.int .i64 ((m : Int) + 1))) none).run Try.prog w = .ok (.slice (some ⟨g, 0, none⟩) (m + 1) 5) w := by
  obtain ⟨i0, hi, hz0, hz1, hz2⟩ := info_parts infoI
  have hl : Try.prog.arrayLen 116 = 5 := by kernel_rfl
  have he : Try.prog.elem 116 = 2 := by kernel_rfl
  have hu : Try.prog.underlying 116 = some (.array (Try.prog.arrayLen 116) (Try.prog.elem 116)) := by rw [hl, he]; exact Try.underlying116
  rw [run_sliceAt_array_h w _ _ hu .i64 ((m : Int) + 1) (by omega) (by rw [hl]; omega), hl, he, run_sizeOf w hi]
  have e : ((m : Int) + 1).toNat = m + 1 := by omega
  have e2 : (⟨g, 0, none⟩ : Addr).add (0 * Try.prog.cellsOf 2) = ⟨g, 0, none⟩ := by simp [Addr.add]
  simp only [Result.andThen_ok, slicedAt, e, e2, Nat.sub_zero]
  split <;> rfl

set_option maxRecDepth 100000 in
set_option maxHeartbeats 2000000 in
theorem implLevelsOf_no {n b : Int} (h : isF n b = false) (w : World) :
    Calls Try.prog 24 #[.agg #[.int .i64 n, .int .i64 b]] w (ListCodePost w.heap.size [] 1 w) := by
  go_enter Try.func24, Try.ntmps24
  go_wp2_with (go_at_call 85; refine (IsFunc_is h _).mono ?_; rintro e w2 ⟨rfl, hb2⟩)
  go_ret2
  exact ⟨_, rfl, Owns.nil _ _, bthen (bnew _ _) hb2⟩

set_option maxRecDepth 100000 in
set_option maxHeartbeats 8000000 in
theorem implLevelsOf_state {m x R : Nat} (ok : FOk (m : Int) x R) (hs : symB x R = false) (w : World) :
    Calls Try.prog 24 #[.agg #[.int .i64 (m : Int), .int .i64 (x : Int)]] w (ListCodePost w.heap.size [] 5 w) := by
  have h := ok.is
  have m4 : m ≤ 4 := by have := ok.h4; omega
  have hmn : ((m : Int)).toNat = m := by omega
  have LB0 := fun W => levelBounds_any ok W
  have NO := sym_no ok.r0 m4 (by have := ok.he; rwa [hmn] at this) hs
  rw [hmn] at LB0
  generalize loF m x (upto ok.r0 R) = lo at LB0 NO
  generalize hiF x (upto ok.r0 R) = hh at LB0 NO
  have NEQ := fun w => neq_arr5 lo hh w
  rw [show eq5 lo hh = false from Bool.eq_false_iff.2 fun e => NO ((eq5_iff _ _).1 e)] at NEQ
  unfold arr5 at LB0 NEQ
  have LB := Lib.hid LB0
  clear LB0 NO hs hmn
  obtain ⟨W1, hW1⟩ : ∃ W1, w.alloc (.cells #[.int .i64 (m : Int), .int .i64 (x : Int)] 25) = W1 := ⟨_, rfl⟩
  have p0 : W1.cell? ⟨w.heap.size, 0, none⟩ = some (.int .i64 (m : Int)) := by rw [← hW1]; simp [go_sem]
  have p1 : W1.cell? ⟨w.heap.size, 1, none⟩ = some (.int .i64 (x : Int)) := by rw [← hW1]; simp [go_sem]
  have hB : Below w.heap.size w W1 := by rw [← hW1]; exact bnew _ _
  go_enter Try.func24, Try.ntmps24
  go_wp2_with (first
    | (go_at_call 85; refine (IsFunc_is h _).mono ?_; rintro e w2 ⟨rfl, hb2⟩; have q0 := kc hb2 p0; have q1 := kc hb2 p1; have hB2 := bthen hB hb2)
    | (go_at_call 114; refine (LB.out _).mono ?_; rintro e w3 ⟨rfl, hb3⟩; have o0 := kc hb3 q0; have o1 := kc hb3 q1; have hB3 := bthen hB2 hb3))
  go_ret2
  exact ⟨_, rfl, Owns.nil _ _, balloc (balloc hB3 _) _⟩
set_option maxRecDepth 100000 in
set_option maxHeartbeats 8000000 in
theorem implLevelsOf_yes {m x R : Nat} (ok : FOk (m : Int) x R) (hs : symB x R = true) (w : World) :
    Calls Try.prog 24 #[.agg #[.int .i64 (m : Int), .int .i64 (x : Int)]] w (ListCodePost w.heap.size (natL (lev x) (m + 1)) 0 w) := by
  have h := ok.is
  have m4 : m ≤ 4 := by have := ok.h4; omega
  have SLI := fun g w => slice_lev m g m4 w
  have hmn : ((m : Int)).toNat = m := by omega
  have LB0 := fun W => levelBounds_any ok W
  have YES := sym_yes ok.r0 m4 (by have := ok.he; rwa [hmn] at this) hs
  rw [hmn] at LB0
  generalize loF m x (upto ok.r0 R) = lo at LB0 YES
  generalize hiF x (upto ok.r0 R) = hh at LB0 YES
  have NEQ := fun w => neq_arr5 lo hh w
  rw [show eq5 lo hh = true from (eq5_iff _ _).2 fun s hs => (YES s hs).1] at NEQ
  rw [← natL_congr (v := lo) (u := lev x) (k := m + 1) fun s hs => (YES s (by omega)).2 hs]
  unfold arr5 at LB0 NEQ
  have LB := Lib.hid LB0
  clear LB0 YES hs hmn
  obtain ⟨W1, hW1⟩ : ∃ W1, w.alloc (.cells #[.int .i64 (m : Int), .int .i64 (x : Int)] 25) = W1 := ⟨_, rfl⟩
  have p0 : W1.cell? ⟨w.heap.size, 0, none⟩ = some (.int .i64 (m : Int)) := by rw [← hW1]; simp [go_sem]
  have p1 : W1.cell? ⟨w.heap.size, 1, none⟩ = some (.int .i64 (x : Int)) := by rw [← hW1]; simp [go_sem]
  have hB : Below w.heap.size w W1 := by rw [← hW1]; exact bnew _ _
  go_enter Try.func24, Try.ntmps24
  go_wp2_with (first
    | (go_at_call 85; refine (IsFunc_is h _).mono ?_; rintro e w2 ⟨rfl, hb2⟩; have q0 := kc hb2 p0; have q1 := kc hb2 p1; have hB2 := bthen hB hb2)
    | (go_at_call 114; refine (LB.out _).mono ?_; rintro e w3 ⟨rfl, hb3⟩; have o0 := kc hb3 q0; have o1 := kc hb3 q1; have hB3 := bthen hB2 hb3; have hlt3 := cell_lt o0; have n1 : ¬ w.heap.size = w3.heap.size := Nat.ne_of_lt hlt3; have n2 : ¬ w.heap.size = w3.heap.size + 1 := Nat.ne_of_lt (Nat.lt_succ_of_lt hlt3)))
  have hN := balloc (balloc hB3 (.cells #[.int .i64 (lo 0 : Int), .int .i64 (lo 1 : Int), .int .i64 (lo 2 : Int), .int .i64 (lo 3 : Int), .int .i64 (lo 4 : Int)] 116)) (.cells #[.int .i64 (hh 0 : Int), .int .i64 (hh 1 : Int), .int .i64 (hh 2 : Int), .int .i64 (hh 3 : Int), .int .i64 (hh 4 : Int)] 116)
  refine (slicesClone_any (g := w3.heap.size) (m := m + 1) (cap := 5) lo (by omega) _ ?_ (fun j hj => ?_)).mono ?_
  · simp; omega
  · rcases (show j = 0 ∨ j = 1 ∨ j = 2 ∨ j = 3 ∨ j = 4 by omega) with rfl | rfl | rfl | rfl | rfl <;> simp [go_sem]
  · rintro e w5 ⟨s5, rfl, ho5, hb5⟩
    have hBE := bthen hN hb5
    have ho6 := ho5.mono hN.size
    clear ho5 hb5 hN
    go_wp2
    go_ret2
    exact ⟨_, rfl, ho6, hBE⟩

theorem bothLevelsOf (n b : Int) (_ : (Lit.int .i64 n).wf = true) (_ : (Lit.int .i64 b).wf = true) : ∃ (xs : List Int) (rc : Int), xs.length ≤ 1000 ∧
    (∀ w, Calls Try.prog 25 #[.agg #[.int .i64 n, .int .i64 b]] w (ListCodePost w.heap.size xs rc w)) ∧
    (∀ w, Calls Try.prog 24 #[.agg #[.int .i64 n, .int .i64 b]] w (ListCodePost w.heap.size xs rc w)) := by
  cases h : isF n b
  · exact ⟨_, _, by simp, specLevelsOf_no h, implLevelsOf_no h⟩
  · obtain ⟨x, R, rfl, ok⟩ := fok h
    obtain ⟨m, rfl⟩ : ∃ m : Nat, n = (m : Int) := Int.eq_ofNat_of_zero_le ok.h0
    have h4 := ok.h4
    cases hs : symB x R
    · exact ⟨_, _, by simp, specLevelsOf_yes ok rfl [] 5 (Lib.hid fun e => by rw [hs] at e; cases e) (Lib.hid fun _ => ⟨rfl, rfl⟩), implLevelsOf_state ok hs⟩
    · exact ⟨_, _, by rw [natL_len]; omega, specLevelsOf_yes ok rfl (natL (lev x) (m + 1)) 0 (Lib.hid fun _ => ⟨rfl, rfl⟩) (Lib.hid fun e => by rw [hs] at e; cases e), implLevelsOf_yes ok hs⟩
end Go.Proofs.Ytbdhlokbpbiijaa

/- ID1:
  Idempotent and symmetric functions of the program. -/
namespace Go.Proofs.Ytbdhlokbpbiijaa
open Go.RowKit Go.Shelf
set_option linter.unusedVariables false
set_option linter.unusedSimpArgs false

/-- Idempotent: all zeros give 0, all ones give 1. -/
def idB (x R : Nat) : Bool := cls0 x && cls1 x R
theorem idB_one {x : Nat} : idB x 1 = false := by
  unfold idB cls0 cls1
  cases h : bitN x 0 == 0
  · rfl
  · have := bitN_le x 0
    simp at h ⊢
    omega

set_option maxRecDepth 100000 in
set_option maxHeartbeats 2000000 in
theorem isIdempotent_any {n : Int} {x R : Nat} (ok : FOk n x R) (w : World) :
    Calls Try.prog 147 #[.agg #[.int .i64 n, .int .i64 (x : Int)]] w fun e w' => e = .returned (.bool (idB x R)) ∧ Below w.heap.size w w' := by
  have A0 := fun W => isInClass_0 ok W
  have B0 := fun W => isInClass_1 ok W
  unfold idB
  generalize cls1 x R = b1 at B0 ⊢
  have B := Lib.hid B0
  clear B0
  obtain ⟨W1, hW1⟩ : ∃ W1, w.alloc (.cells #[.int .i64 n, .int .i64 (x : Int)] 25) = W1 := ⟨_, rfl⟩
  have p0 : W1.cell? ⟨w.heap.size, 0, none⟩ = some (.int .i64 n) := by rw [← hW1]; simp [go_sem]
  have p1 : W1.cell? ⟨w.heap.size, 1, none⟩ = some (.int .i64 (x : Int)) := by rw [← hW1]; simp [go_sem]
  have hB : Below w.heap.size w W1 := by rw [← hW1]; exact bnew _ _
  cases h0 : cls0 x
  · rw [h0] at A0
    have A := Lib.hid A0
    clear A0 h0
    go_enter Try.func147, Try.ntmps147
    go_wp2_with (go_at_call 198; with_reducible refine (A.out _).mono ?_; rintro e w2 ⟨rfl, hb2⟩)
    go_ret
    exact ⟨rfl, bthen hB hb2⟩
  · rw [h0] at A0
    have A := Lib.hid A0
    clear A0 h0
    go_enter Try.func147, Try.ntmps147
    go_wp2_with fail
    refine (A.out _).mono ?_
    rintro e w2 ⟨rfl, hb2⟩
    have q0 := kc hb2 p0
    have q1 := kc hb2 p1
    have hB2 := bthen hB hb2
    clear p0 p1 hW1
    go_wp2_with fail
    refine (B.out _).mono ?_
    rintro e w3 ⟨rfl, hb3⟩
    go_wp2
    go_ret
    exact ⟨rfl, bthen hB2 hb3⟩

theorem eql_arr5 (a b : Nat → Nat) (w : World) : (binOp .eql 116 (arr5 a) (arr5 b)).run Try.prog w = .ok (.bool (eq5 a b)) w := by
  obtain ⟨i0, hi, hz0, hz1, hz2⟩ := info_parts infoI
  have hc : Try.prog.cellsOf 2 = 1 := by kernel_rfl
  have h : ∀ d : Nat, (Op.equalIn (d + 1 + 1) 116 (arr5 a) (arr5 b)).run Try.prog w = .ok (eq5 a b) w := fun d => by
    unfold arr5
    rw [run_equalIn_array w (d + 1) _ _ Try.underlying116 hi, hc, show List.range 5 = [0, 1, 2, 3, 4] from rfl,
      items_step d _ _ 0 (a 0) (b 0) _ w rfl rfl, items_step d _ _ 1 (a 1) (b 1) _ w rfl rfl, items_step d _ _ 2 (a 2) (b 2) _ w rfl rfl, items_step d _ _ 3 (a 3) (b 3) _ w rfl rfl, items_step d _ _ 4 (a 4) (b 4) _ w rfl rfl]
    unfold eq5
    simp only [Op.eqItems]
    cases a 0 == b 0 <;> cases a 1 == b 1 <;> cases a 2 == b 2 <;> cases a 3 == b 3 <;> cases a 4 == b 4 <;> simp
  unfold arr5 at h ⊢
  simp only [binOp]
  simp only [Op.equal, Op.maxDepth, Sem.run_bind]
  rw [h 9998]
  simp

set_option maxRecDepth 100000 in
set_option maxHeartbeats 2000000 in
theorem isSymmetric_any {n : Int} {x R : Nat} (ok : FOk n x R) (w : World) :
    Calls Try.prog 149 #[.agg #[.int .i64 n, .int .i64 (x : Int)]] w fun e w' => e = .returned (.bool (symB x R)) ∧ Below w.heap.size w w' := by
  obtain ⟨m, rfl⟩ : ∃ m : Nat, n = (m : Int) := Int.eq_ofNat_of_zero_le ok.h0
  have m4 : m ≤ 4 := by have := ok.h4; omega
  have hmn : ((m : Int)).toNat = m := by omega
  have LB0 := fun W => levelBounds_any ok W
  have he : R = 2 ^ m := by have := ok.he; rwa [hmn] at this
  have YES := fun hs => sym_yes (x := x) ok.r0 m4 he hs
  have NO := fun hs => sym_no (x := x) ok.r0 m4 he hs
  rw [hmn] at LB0
  generalize loF m x (upto ok.r0 R) = lo at LB0 YES NO
  generalize hiF x (upto ok.r0 R) = hh at LB0 YES NO
  have e5 : eq5 lo hh = symB x R := by
    cases hs : symB x R
    · exact Bool.eq_false_iff.2 fun e => NO hs ((eq5_iff _ _).1 e)
    · exact (eq5_iff _ _).2 fun s h5 => (YES hs s h5).1
  have EQ := fun w => eql_arr5 lo hh w
  rw [e5] at EQ
  generalize symB x R = b at EQ ⊢
  unfold arr5 at LB0 EQ
  have LB := Lib.hid LB0
  clear LB0 YES NO e5 hmn he

  obtain ⟨W1, hW1⟩ : ∃ W1, w.alloc (.cells #[.int .i64 (m : Int), .int .i64 (x : Int)] 25) = W1 := ⟨_, rfl⟩
  have p0 : W1.cell? ⟨w.heap.size, 0, none⟩ = some (.int .i64 (m : Int)) := by rw [← hW1]; simp [go_sem]
  have p1 : W1.cell? ⟨w.heap.size, 1, none⟩ = some (.int .i64 (x : Int)) := by rw [← hW1]; simp [go_sem]
  have hB : Below w.heap.size w W1 := by rw [← hW1]; exact bnew _ _
  go_enter Try.func149, Try.ntmps149
  go_wp2_with (go_at_call 114; refine (LB.out _).mono ?_; rintro e w3 ⟨rfl, hb3⟩; have o0 := kc hb3 p0; have o1 := kc hb3 p1; have hB3 := bthen hB hb3)
  go_ret
  exact ⟨rfl, balloc (balloc hB3 _) _⟩

set_option maxRecDepth 100000 in
set_option maxHeartbeats 2000000 in
theorem isIdempotentAndSymmetric_any {n : Int} {x R : Nat} (ok : FOk n x R) (w : World) :
    Calls Try.prog 151 #[.agg #[.int .i64 n, .int .i64 (x : Int)]] w fun e w' => e = .returned (.bool (idB x R && symB x R)) ∧ Below w.heap.size w w' := by
  have A0 := fun W => isIdempotent_any ok W
  have B0 := fun W => isSymmetric_any ok W
  generalize symB x R = b1 at B0 ⊢
  have B := Lib.hid B0
  clear B0
  obtain ⟨W1, hW1⟩ : ∃ W1, w.alloc (.cells #[.int .i64 n, .int .i64 (x : Int)] 25) = W1 := ⟨_, rfl⟩
  have p0 : W1.cell? ⟨w.heap.size, 0, none⟩ = some (.int .i64 n) := by rw [← hW1]; simp [go_sem]
  have p1 : W1.cell? ⟨w.heap.size, 1, none⟩ = some (.int .i64 (x : Int)) := by rw [← hW1]; simp [go_sem]
  have hB : Below w.heap.size w W1 := by rw [← hW1]; exact bnew _ _
  cases h0 : idB x R
  · rw [h0] at A0
    have A := Lib.hid A0
    clear A0 h0
    go_enter Try.func151, Try.ntmps151
    go_wp2_with (go_at_call 147; with_reducible refine (A.out _).mono ?_; rintro e w2 ⟨rfl, hb2⟩)
    go_ret
    exact ⟨rfl, bthen hB hb2⟩
  · rw [h0] at A0
    have A := Lib.hid A0
    clear A0 h0
    go_enter Try.func151, Try.ntmps151
    go_wp2_with fail
    refine (A.out _).mono ?_
    rintro e w2 ⟨rfl, hb2⟩
    have q0 := kc hb2 p0
    have q1 := kc hb2 p1
    have hB2 := bthen hB hb2
    clear p0 p1 hW1
    go_wp2_with fail
    refine (B.out _).mono ?_
    rintro e w3 ⟨rfl, hb3⟩
    go_wp2
    go_ret
    exact ⟨rfl, bthen hB2 hb3⟩
end Go.Proofs.Ytbdhlokbpbiijaa

/- SP1:
  Spectra in the model: l03Spectrum, l03Ends. -/
namespace Go.Proofs.Ytbdhlokbpbiijaa
open Go.RowKit
set_option linter.unusedVariables false
set_option linter.unusedSimpArgs false

theorem wrap64_neg (x : Int) (h1 : -1000 ≤ x) (h2 : x ≤ 1000) : IntKind.i64.wrap (-x) = -x := by simp [IntKind.wrap, IntKind.bits, IntKind.signed]; omega
/-- A list of numbers. -/
def intL (s : Nat → Int) (k : Nat) : List Int := (List.range k).map s
theorem intL_succ (s : Nat → Int) (k : Nat) : intL s (k + 1) = intL s k ++ [s k] := by simp [intL, List.range_succ]
theorem intL_len (s : Nat → Int) (k : Nat) : (intL s k).length = k := by simp [intL]
theorem intL_get (s : Nat → Int) (k j : Nat) (h : j < k) : (intL s k)[j]?.getD 0 = s j := by simp [intL, h]
theorem intL_congr {s t : Nat → Int} {k : Nat} (h : ∀ j, j < k → s j = t j) : intL s k = intL t k := by
  unfold intL
  exact List.map_congr_left fun j hj => h j (List.mem_range.1 hj)

/-- The spectrum. -/
def spV (x R : Nat) (w : Nat) : Int := spS (sgn (bitN x)) w R
theorem spS_step (x w k : Nat) : spS (sgn (bitN x)) w (k + 1) = spS (sgn (bitN x)) w k + 1 - 2 * (((bitN x k + sizeN (k &&& w)) % 2 : Nat) : Int) := by
  have h := sgn_turn (bitN_le x) k (sizeN (k &&& w))
  simp only [spS]
  rw [← h]
  omega
theorem spS_bd (x w k : Nat) : -(k : Int) ≤ spS (sgn (bitN x)) w k ∧ spS (sgn (bitN x)) w k ≤ k := spS_bound _ (sgn_bound (bitN_le x)) w k

end Go.Proofs.Ytbdhlokbpbiijaa

/- SP2:
  Chapter 3 of the program: signsOf: the signs of a function, by rows. -/
namespace Go.Proofs.Ytbdhlokbpbiijaa
open Go.RowKit Go.Shelf
attribute [local go_sem] Oper.semAt_some
set_option linter.unusedVariables false
set_option linter.unusedSimpArgs false

end Go.Proofs.Ytbdhlokbpbiijaa

/- CO1:
  Correlations and influences: the generic sum at both its instances. -/

namespace Go.Proofs.Ytbdhlokbpbiijaa
open Go.RowKit
set_option linter.unusedVariables false
set_option linter.unusedSimpArgs false

theorem sgn_one (x k : Nat) : sgn (bitN x) k = 1 ∨ sgn (bitN x) k = -1 := by have := bitN_le x k; unfold sgn; omega

end Go.Proofs.Ytbdhlokbpbiijaa

/- SP3:
  Spectra in the program: lines of the table, one variable more. -/
namespace Go.Proofs.Ytbdhlokbpbiijaa
open Go.RowKit
set_option linter.unusedVariables false
set_option linter.unusedSimpArgs false

theorem pow_cases {n R : Nat} (hn : n ≤ 4) (hR : R = 2 ^ n) : R = 1 ∨ R = 2 ∨ R = 4 ∨ R = 8 ∨ R = 16 := by
  rcases (show n = 0 ∨ n = 1 ∨ n = 2 ∨ n = 3 ∨ n = 4 by omega) with rfl | rfl | rfl | rfl | rfl <;> simp [hR]

theorem mul_bd {k R : Nat} (hk : k ≤ 5) (hR : R ≤ 16) : k * R ≤ 80 := Nat.le_trans (Nat.mul_le_mul_right R hk) (Nat.mul_le_mul_left 5 hR)

/-- A list by places. -/
def tab (F : Nat → Value) (N : Nat) : List Value := (List.range N).map F
theorem tab_len (F : Nat → Value) (N : Nat) : (tab F N).length = N := by simp [tab]
theorem tab_get (F : Nat → Value) (N j : Nat) (h : j < N) : (tab F N)[j]? = some (F j) := by simp [tab, h]
theorem tab_set (F : Nat → Value) (N j : Nat) (u : Value) : (tab F N).set j u = tab (fun o => if o = j then u else F o) N := by
  apply List.ext_getElem
  · simp [tab]
  · intro i h1 h2
    simp only [tab, List.getElem_set, List.getElem_map, List.getElem_range]
    by_cases e : j = i
    · subst e; simp
    · simp [e, Ne.symm e]
theorem tab_congr {F G : Nat → Value} {N : Nat} (h : ∀ o, o < N → F o = G o) : tab F N = tab G N := List.map_congr_left fun o ho => h o (List.mem_range.1 ho)
theorem tab_of (L : List Value) (N : Nat) (h : L.length = N) : L = tab (fun o => L[o]?.getD undef) N := by
  apply List.ext_getElem
  · simp [tab, h]
  · intro i h1 h2
    simp [tab, h1]

/-- One variable more. -/
def flyS (s : Nat → Int) (i row : Nat) : Int := if row / 2 ^ i % 2 = 0 then s row + s (row ^^^ 2 ^ i) else s (row ^^^ 2 ^ i) - s row
theorem fly_succ (s : Nat → Int) (i row : Nat) : fly s (i + 1) row = flyS (fly s i) i row := rfl

theorem xor_pow : ∀ i : Nat, i < 4 → (IntKind.i64.wrap (2 ^ i) = ((2 ^ i : Nat) : Int)) ∧ (wrap64 (2 ^ i) = ((2 ^ i : Nat) : Int)) ∧ ∀ k : Nat, k < 16 → bits .xor .i64 (k : Int) ((2 ^ i : Nat) : Int) = ((k ^^^ 2 ^ i : Nat) : Int) := by decide +kernel

/-- The table with the first k places of a line told. -/
def lineT (t : Nat → Int) (a k : Nat) (F : Nat → Value) : Nat → Value := fun o => if a ≤ o ∧ o < a + k then .int .i64 (t (o - a)) else F o
theorem lineT_zero (t : Nat → Int) (a : Nat) (F : Nat → Value) : lineT t a 0 F = F := by
  funext o
  simp only [lineT]
  rw [if_neg (by omega)]
theorem lineT_succ (t : Nat → Int) (a k : Nat) (F : Nat → Value) : (fun o => if o = a + k then Value.int .i64 (t k) else lineT t a k F o) = lineT t a (k + 1) F := by
  funext o
  simp only [lineT]
  by_cases e : o = a + k
  · subst e
    rw [if_pos rfl, if_pos (by omega)]
    congr 2; omega
  · rw [if_neg e]
    by_cases h : a ≤ o ∧ o < a + k
    · rw [if_pos h, if_pos (by omega)]
    · rw [if_neg h, if_neg (by omega)]

end Go.Proofs.Ytbdhlokbpbiijaa

/- CO2:
  CorrelationsOf in both packages. -/

namespace Go.Proofs.Ytbdhlokbpbiijaa
open Go.RowKit
set_option linter.unusedVariables false
set_option linter.unusedSimpArgs false

theorem step_heldC {W w' W0 : World} {a b : Addr} {u v : Value} (hb : Below W.heap.size W w') (h : (W.cell? a = some u ∧ W.cell? b = some v) ∧ Below W0.heap.size W0 W) :
    (w'.cell? a = some u ∧ w'.cell? b = some v) ∧ Below W0.heap.size W0 w' := ⟨⟨kc hb h.1.1, kc hb h.1.2⟩, bthen h.2 hb⟩
theorem wrap64_in {x : Int} (h0 : -9223372036854775808 ≤ x) (h1 : x < 9223372036854775808) : IntKind.i64.wrap x = x := by
  simp [IntKind.wrap, IntKind.bits, IntKind.signed]; omega

end Go.Proofs.Ytbdhlokbpbiijaa

/- ID2:
  Idempotent and symmetric functions of the model. -/
namespace Go.Proofs.Ytbdhlokbpbiijaa
open Go.RowKit Go.Shelf
set_option linter.unusedVariables false
set_option linter.unusedSimpArgs false

/-- Rows i and k do not show that a function is not symmetric. -/
def symP (x i k : Nat) : Bool := !(sizeN i == sizeN k && bitN x i != bitN x k)
def symI (x i k : Nat) : Bool := allLt k fun j => symP x i j
def symS (x j : Nat) : Bool := allLt j fun i => symI x i i
theorem symI_succ (x i k : Nat) : symI x i (k + 1) = (symI x i k && symP x i k) := allLt_succ _ _
theorem symS_succ (x j : Nat) : symS x (j + 1) = (symS x j && symI x j j) := allLt_succ _ _
theorem symP_iff {x i k : Nat} : symP x i k = true ↔ (sizeN i = sizeN k → bitN x i = bitN x k) := by
  unfold symP
  by_cases h : sizeN i = sizeN k <;> by_cases h2 : bitN x i = bitN x k <;> simp [h, h2]
theorem symS_false {x i k j : Nat} (hi : i < j) (hk : k < i) (h : symP x i k = false) : symS x j = false := by
  cases hc : symS x j
  · rfl
  · have := allLt_iff.1 (allLt_iff.1 hc i hi) k hk
    rw [h] at this
    cases this
theorem symS_is {x m R : Nat} (h4 : m ≤ 4) (he : R = 2 ^ m) : symS x R = symB x R := by
  rw [Bool.eq_iff_iff, symB_iff]
  constructor
  · intro h r hr
    have P : ∀ i, i < R → ∀ k, k < i → sizeN i = sizeN k → bitN x i = bitN x k := fun i hi k hk => symP_iff.1 (allLt_iff.1 (allLt_iff.1 h i hi) k hk)
    have hs := size_lt m (by omega) r (by rw [← he]; exact hr)
    have F1 := size_full (sizeN r) (by omega)
    have F2 := full_lt hs he
    unfold lev
    rcases Nat.lt_trichotomy r (2 ^ sizeN r - 1) with h1 | h1 | h1
    · exact (P _ F2 _ h1 F1).symm
    · rw [← h1]
    · exact P _ hr _ h1 F1.symm
  · intro h
    unfold symS symI
    rw [allLt_iff]
    intro i hi
    rw [allLt_iff]
    intro k hk
    rw [symP_iff]
    intro e
    rw [h i hi, h k (by omega), e]

set_option maxRecDepth 100000 in
set_option maxHeartbeats 1000000 in
theorem l10Weight_any (w : Nat) (hw : w < 16) (W : World) :
    Calls Try.prog 196 #[.int .i64 (w : Int)] W fun e W' => e = .returned (.int .i64 (sizeN w : Int)) ∧ W = W' := by
  go_enter Try.func196, Try.ntmps196
  go_wp2
  go_loop [0, 3] (fun v' c' => ∃ v c : Nat, v' = .int .i64 (v : Int) ∧ c' = .int .i64 (c : Int) ∧ v < 16 ∧ Hid (c + sizeN v = sizeN w)) (fun v' _ => (intOf v').toNat)
  case atStart => exact ⟨w, 0, rfl, rfl, hw, Lib.hid (by omega)⟩
  case round =>
    obtain ⟨v, c, rfl, rfl, hv, hs⟩ := hrel
    by_cases h0 : v = 0
    · subst h0
      have h := hs.out
      have h2 := sizeN_le w
      obtain rfl : c = sizeN w := by have e0 : sizeN 0 = 0 := rfl; omega
      clear hs h
      go_wp2
      go_ret
      exact ⟨rfl, rfl⟩
    · have h := hs.out
      have h1 := sizeN_step v hv
      have h2 := sizeN_le w
      have hc : c ≤ 4 := by omega
      have HN := Lib.hid (show (c + v % 2) + sizeN (v / 2) = sizeN w by omega)
      clear h h1 h2 hs
      go_wp2
      go_round
      case rel => exact ⟨v / 2, c + v % 2, by go_num, by go_num, by omega, HN⟩
      case measure => simp [intOf]; omega

set_option maxRecDepth 100000 in
set_option maxHeartbeats 2000000 in
theorem l10Idem_any {n : Int} {x R : Nat} (ok : FOk n x R) (w : World) :
    Calls Try.prog 148 #[.agg #[.int .i64 n, .int .i64 (x : Int)]] w fun e w' => e = .returned (.bool (idB x R)) ∧ Below w.heap.size w w' := by
  have h0 := ok.h0
  have h4 := ok.h4
  obtain ⟨W1, hW1⟩ : ∃ W1, w.alloc (.cells #[.int .i64 n, .int .i64 (x : Int)] 25) = W1 := ⟨_, rfl⟩
  have p0 : W1.cell? ⟨w.heap.size, 0, none⟩ = some (.int .i64 n) := by rw [← hW1]; simp [go_sem]
  have p1 : W1.cell? ⟨w.heap.size, 1, none⟩ = some (.int .i64 (x : Int)) := by rw [← hW1]; simp [go_sem]
  have hB : Below w.heap.size w W1 := by rw [← hW1]; exact bnew _ _
  have KEEP := fun (W : World) => (W.cell? ⟨w.heap.size, 0, none⟩ = some (.int .i64 n) ∧ W.cell? ⟨w.heap.size, 1, none⟩ = some (.int .i64 (x : Int))) ∧ Below w.heap.size w W
  clear KEEP
  by_cases hn : n = 0
  · have : R = 1 := by rw [ok.he, hn]; rfl
    subst this
    rw [idB_one]
    subst hn
    go_enter Try.func148, Try.ntmps148
    go_wp2
    go_quiet (fail)
    go_wp2
    go_ret
    exact ⟨rfl, below_drewN hB _⟩
  · have hpos : 0 < n := by omega
    have A := Lib.hid (fun W => l01At_any n x 0 ok.hx (by decide) W)
    have L := Lib.hid (fun W => l01At_last ok W)
    have RW := Lib.hid (fun W => l01Rows_is ok.h0 ok.h4 ok.hR W)
    have HI : Hid (idB x R = (((bitN x 0 : Int) == 0) && ((bitN x (R - 1) : Int) == 1))) := Lib.hid (by
      have e : ∀ a b : Nat, ((a : Int) == (b : Int)) = (a == b) := beq_cast
      rw [show (0 : Int) = ((0 : Nat) : Int) from rfl, show (1 : Int) = ((1 : Nat) : Int) from rfl, e, e]; rfl)
    have r0 := ok.r0
    have r16 := ok.r16
    have b0 := bitN_le x 0
    have b1 := bitN_le x (R - 1)
    generalize bitN x 0 = v0 at A HI b0
    generalize bitN x (R - 1) = v1 at L HI b1
    have wr1 : IntKind.i64.wrap ((R : Int) - 1) = (R : Int) - 1 := wrap64_small (by omega) (by omega)
    rcases (show v0 = 0 ∨ v0 = 1 by omega) with rfl | rfl
    · go_enter Try.func148, Try.ntmps148
      go_wp2
      go_region_held3 (fun w' => (w'.cell? ⟨w.heap.size, 0, none⟩ = some (.int .i64 n) ∧ w'.cell? ⟨w.heap.size, 1, none⟩ = some (.int .i64 (x : Int))) ∧ Below w.heap.size w w') (first | exact ⟨⟨p0, p1⟩, hB.drew⟩ | assumption | exact step_heldC hb1 (by assumption))
        (first
          | (go_at_call 116; with_reducible refine (RW.out _).mono ?_; rintro e w' ⟨rfl, rfl⟩)
          | (go_at_call 115; with_reducible refine (L.out _).mono ?_; rintro e w' ⟨rfl, hb1⟩)
          | (go_at_call 115; refine (A.out _).mono ?_; rintro e w' ⟨rfl, hb1⟩))
      go_wp2
      go_ret
      exact ⟨by rw [HI.out]; rfl, (‹(_ ∧ _) ∧ Below _ _ _›).2⟩
    · go_enter Try.func148, Try.ntmps148
      go_wp2
      refine wp_region_held (S := fun w' => (w'.cell? ⟨w.heap.size, 0, none⟩ = some (.int .i64 n) ∧ w'.cell? ⟨w.heap.size, 1, none⟩ = some (.int .i64 (x : Int))) ∧ Below w.heap.size w w') (by kernel_rfl) ?_
      have hHeld : (fun w' => (w'.cell? ⟨w.heap.size, 0, none⟩ = some (.int .i64 n) ∧ w'.cell? ⟨w.heap.size, 1, none⟩ = some (.int .i64 (x : Int))) ∧ Below w.heap.size w w') (World.drew _) := ⟨⟨p0, p1⟩, hB.drew⟩
      change wpAnyH _ _ _ _ _ _ _ _ (World.drew _)
      refine wpAnyH_take (i := 0) (v := ?_) rfl (by kernel_rfl) (by kernel_rfl) (by kernel_rfl) (fun _ _ _ h => h) (Or.inl ⟨by rfl, by intro w hSw; (try dsimp only at hSw); go_simp; try (with_reducible rfl)⟩) (by assumption) ?_
      try simp only [Act.put, List.setIfInBounds_toArray, List.set_cons_zero, List.set_cons_succ, List.getElem_toArray, List.getElem_cons_zero, List.getElem_cons_succ]
      refine wpAnyH_take (i := 1) (v := ?_) rfl (by kernel_rfl) (by kernel_rfl) (by kernel_rfl) (fun _ _ _ h => h) (Or.inl ⟨by rfl, by intro w hSw; (try dsimp only at hSw); go_simp; try (with_reducible rfl)⟩) (by assumption) ?_
      try simp only [Act.put, List.setIfInBounds_toArray, List.set_cons_zero, List.set_cons_succ, List.getElem_toArray, List.getElem_cons_zero, List.getElem_cons_succ]
      refine wpAnyH_take (i := 2) (v := ?_) rfl (by kernel_rfl) (by kernel_rfl) (by kernel_rfl) (fun _ _ _ h => h) (Or.inl ⟨by rfl, by intro w hSw; (try dsimp only at hSw); go_simp; try (with_reducible rfl)⟩) (by assumption) ?_
      try simp only [Act.put, List.setIfInBounds_toArray, List.set_cons_zero, List.set_cons_succ, List.getElem_toArray, List.getElem_cons_zero, List.getElem_cons_succ]
      refine wpAnyH_take (i := 3) (v := ?_) rfl (by kernel_rfl) (by kernel_rfl) (by kernel_rfl) (fun _ _ _ h => h) (Or.inl ⟨by rfl, by intro w hSw; (try dsimp only at hSw); go_simp; try (with_reducible rfl)⟩) (by assumption) ?_
      try simp only [Act.put, List.setIfInBounds_toArray, List.set_cons_zero, List.set_cons_succ, List.getElem_toArray, List.getElem_cons_zero, List.getElem_cons_succ]
      refine wpAnyH_take (i := 4) (v := ?_) rfl (by kernel_rfl) (by kernel_rfl) (by kernel_rfl) (fun _ _ _ h => h) (Or.inl ⟨by rfl, by intro w hSw; (try dsimp only at hSw); go_simp; try (with_reducible rfl)⟩) (by assumption) ?_
      try simp only [Act.put, List.setIfInBounds_toArray, List.set_cons_zero, List.set_cons_succ, List.getElem_toArray, List.getElem_cons_zero, List.getElem_cons_succ]
      refine wpAnyH_ready (rs := [5]) (by kernel_rfl) (by simp) ?_
      refine AllReadyH.cons rfl (fun K hK => ?_) AllReadyH.nil
      go_simp
      go_at_call 115
      refine (A.out _).mono ?_
      rintro e w2 ⟨rfl, hb1⟩
      refine hK _ _ (step_heldC hb1 hHeld) (fun hHeld => ?_)
      clear hK K
      try simp only [Act.put, List.setIfInBounds_toArray, List.set_cons_zero, List.set_cons_succ, List.getElem_toArray, List.getElem_cons_zero, List.getElem_cons_succ]
      refine wpAnyH_take (i := 6) (v := ?_) rfl (by kernel_rfl) (by kernel_rfl) (by kernel_rfl) (fun _ _ _ h => h) (Or.inl ⟨by rfl, by intro w hSw; (try dsimp only at hSw); go_simp; try (with_reducible rfl)⟩) (by assumption) ?_
      try simp only [Act.put, List.setIfInBounds_toArray, List.set_cons_zero, List.set_cons_succ, List.getElem_toArray, List.getElem_cons_zero, List.getElem_cons_succ]
      refine wpAnyH_take (i := 7) (v := ?_) rfl (by kernel_rfl) (by kernel_rfl) (by kernel_rfl) (fun _ _ _ h => h) (Or.inl ⟨by rfl, by intro w hSw; (try dsimp only at hSw); go_simp; try (with_reducible rfl)⟩) (by assumption) ?_
      try simp only [Act.put, List.setIfInBounds_toArray, List.set_cons_zero, List.set_cons_succ, List.getElem_toArray, List.getElem_cons_zero, List.getElem_cons_succ]
      refine wpAnyH_take (i := 8) (v := ?_) rfl (by kernel_rfl) (by kernel_rfl) (by kernel_rfl) (fun _ _ _ h => h) (Or.inl ⟨by rfl, by intro w hSw; (try dsimp only at hSw); go_simp; try (with_reducible rfl)⟩) (by assumption) ?_
      try simp only [Act.put, List.setIfInBounds_toArray, List.set_cons_zero, List.set_cons_succ, List.getElem_toArray, List.getElem_cons_zero, List.getElem_cons_succ]
      refine wpAnyH_take (i := 9) (v := undef) rfl (by kernel_rfl) (by kernel_rfl) (by kernel_rfl) (fun _ _ _ h => h) (Or.inr ⟨by rfl, rfl⟩) (by assumption) ?_
      try simp only [Act.put, List.setIfInBounds_toArray, List.set_cons_zero, List.set_cons_succ, List.getElem_toArray, List.getElem_cons_zero, List.getElem_cons_succ]
      refine wpAnyH_take (i := 10) (v := undef) rfl (by kernel_rfl) (by kernel_rfl) (by kernel_rfl) (fun _ _ _ h => h) (Or.inr ⟨by rfl, rfl⟩) (by assumption) ?_
      try simp only [Act.put, List.setIfInBounds_toArray, List.set_cons_zero, List.set_cons_succ, List.getElem_toArray, List.getElem_cons_zero, List.getElem_cons_succ]
      refine wpAnyH_take (i := 11) (v := undef) rfl (by kernel_rfl) (by kernel_rfl) (by kernel_rfl) (fun _ _ _ h => h) (Or.inr ⟨by rfl, rfl⟩) (by assumption) ?_
      try simp only [Act.put, List.setIfInBounds_toArray, List.set_cons_zero, List.set_cons_succ, List.getElem_toArray, List.getElem_cons_zero, List.getElem_cons_succ]
      refine wpAnyH_take (i := 12) (v := undef) rfl (by kernel_rfl) (by kernel_rfl) (by kernel_rfl) (fun _ _ _ h => h) (Or.inr ⟨by rfl, rfl⟩) (by assumption) ?_
      try simp only [Act.put, List.setIfInBounds_toArray, List.set_cons_zero, List.set_cons_succ, List.getElem_toArray, List.getElem_cons_zero, List.getElem_cons_succ]
      refine wpAnyH_take (i := 13) (v := undef) rfl (by kernel_rfl) (by kernel_rfl) (by kernel_rfl) (fun _ _ _ h => h) (Or.inr ⟨by rfl, rfl⟩) (by assumption) ?_
      try simp only [Act.put, List.setIfInBounds_toArray, List.set_cons_zero, List.set_cons_succ, List.getElem_toArray, List.getElem_cons_zero, List.getElem_cons_succ]
      refine wpAnyH_take (i := 14) (v := undef) rfl (by kernel_rfl) (by kernel_rfl) (by kernel_rfl) (fun _ _ _ h => h) (Or.inr ⟨by rfl, rfl⟩) (by assumption) ?_
      try simp only [Act.put, List.setIfInBounds_toArray, List.set_cons_zero, List.set_cons_succ, List.getElem_toArray, List.getElem_cons_zero, List.getElem_cons_succ]
      refine wpAnyH_take (i := 15) (v := undef) rfl (by kernel_rfl) (by kernel_rfl) (by kernel_rfl) (fun _ _ _ h => h) (Or.inr ⟨by rfl, rfl⟩) (by assumption) ?_
      try simp only [Act.put, List.setIfInBounds_toArray, List.set_cons_zero, List.set_cons_succ, List.getElem_toArray, List.getElem_cons_zero, List.getElem_cons_succ]
      refine wpAnyH_take (i := 16) (v := ?_) rfl (by kernel_rfl) (by kernel_rfl) (by kernel_rfl) (fun _ _ _ h => h) (Or.inl ⟨by rfl, by intro w hSw; (try dsimp only at hSw); go_simp; try (with_reducible rfl)⟩) (by assumption) ?_
      try simp only [Act.put, List.setIfInBounds_toArray, List.set_cons_zero, List.set_cons_succ, List.getElem_toArray, List.getElem_cons_zero, List.getElem_cons_succ]
      refine wpAnyH_take (i := 17) (v := ?_) rfl (by kernel_rfl) (by kernel_rfl) (by kernel_rfl) (fun _ _ _ h => h) (Or.inl ⟨by rfl, by intro w hSw; (try dsimp only at hSw); go_simp; try (with_reducible rfl)⟩) (by assumption) ?_
      try simp only [Act.put, List.setIfInBounds_toArray, List.set_cons_zero, List.set_cons_succ, List.getElem_toArray, List.getElem_cons_zero, List.getElem_cons_succ]
      refine wpAnyH_done (by kernel_rfl) ?_ _
      go_wp2
      go_ret
      exact ⟨by rw [HI.out]; rfl, hHeld.2⟩

set_option maxRecDepth 100000 in
set_option maxHeartbeats 4000000 in
theorem l10Symmetric_any {n : Int} {x R : Nat} (ok : FOk n x R) (w : World) :
    Calls Try.prog 150 #[.agg #[.int .i64 n, .int .i64 (x : Int)]] w fun e w' => e = .returned (.bool (symB x R)) ∧ Below w.heap.size w w' := by
  have r0 := ok.r0
  have r16 := ok.r16
  have h4 := ok.h4
  have h0 := ok.h0
  rw [← symS_is (m := n.toNat) (by omega) ok.he]
  have RWS := Lib.hid (fun W => l01Rows_is ok.h0 ok.h4 ok.hR W)
  obtain ⟨W1, hW1⟩ : ∃ W1, w.alloc (.cells #[.int .i64 n, .int .i64 (x : Int)] 25) = W1 := ⟨_, rfl⟩
  have p0 : W1.cell? ⟨w.heap.size, 0, none⟩ = some (.int .i64 n) := by rw [← hW1]; simp [go_sem]
  have p1 : W1.cell? ⟨w.heap.size, 1, none⟩ = some (.int .i64 (x : Int)) := by rw [← hW1]; simp [go_sem]
  have hB : Below w.heap.size w W1 := by rw [← hW1]; exact bnew _ _
  go_enter Try.func150, Try.ntmps150
  go_wp2_with fail
  clear hW1
  go_loopw [3] (fun i' wr => ∃ i : Nat, i ≤ R ∧ i' = .int .i64 i ∧ Hid (symS x i = true) ∧ ((wr.cell? ⟨w.heap.size, 0, none⟩ = some (.int .i64 n) ∧ wr.cell? ⟨w.heap.size, 1, none⟩ = some (.int .i64 (x : Int))) ∧ Below w.heap.size w wr))
    (fun i' _ => R - (intOf i').toNat)
  case atStart => exact ⟨0, by omega, rfl, Lib.hid rfl, ⟨p0, p1⟩, hB⟩
  case round =>
    clear p0 p1 hB
    obtain ⟨i, hi, rfl, hm, ⟨p0, p1⟩, hB⟩ := hrel
    obtain ⟨wo, rfl⟩ : ∃ wo : World, wo = wr := ⟨_, rfl⟩
    by_cases hlt : i < R
    · go_wp2_with (go_at_call 116; refine (RWS.out _).mono ?_; rintro e w' ⟨rfl, rfl⟩)
      go_loopw [4] (fun v' wr => ∃ k : Nat, k ≤ i ∧ v' = .int .i64 k ∧ Hid (symI x i k = true) ∧ ((wr.cell? ⟨w.heap.size, 0, none⟩ = some (.int .i64 n) ∧ wr.cell? ⟨w.heap.size, 1, none⟩ = some (.int .i64 (x : Int))) ∧ Below w.heap.size w wr))
        (fun v' _ => i - (intOf v').toNat)
      case atStart => exact ⟨0, by omega, rfl, Lib.hid rfl, ⟨p0, p1⟩, hB⟩
      case round =>
        clear p0 p1 hB
        obtain ⟨k, hk, rfl, hu, ⟨p0, p1⟩, hB⟩ := hrel
        by_cases hltk : k < i
        · have AI := Lib.hid (fun W => l01At_any n x i ok.hx (by omega) W)
          have AK := Lib.hid (fun W => l01At_any n x k ok.hx (by omega) W)
          have WI := Lib.hid (fun W => l10Weight_any i (by omega) W)
          have WK := Lib.hid (fun W => l10Weight_any k (by omega) W)
          have HU := fun (h : symP x i k = true) => Lib.hid (show symI x i (k + 1) = true by rw [symI_succ, hu.out, h]; rfl)
          have HF := fun (h : symP x i k = false) => Lib.hid (symS_false hlt hltk h)
          have si := sizeN_le i
          have sk := sizeN_le k
          have bi := bitN_le x i
          have bk := bitN_le x k
          unfold symP at HU HF
          generalize bitN x i = vi at AI HU HF bi
          generalize bitN x k = vk at AK HU HF bk
          generalize sizeN i = zi at WI HU HF si
          generalize sizeN k = zk at WK HU HF sk
          by_cases hz : zi = zk
          · by_cases hv : vi = vk
            · have H1 := HU (by simp [hv])
              have g1 : ((zi : Int) == (zk : Int)) = true := by rw [beq_cast]; simp [hz]
              have g2 : ((vi : Int) != (vk : Int)) = false := by simp [hv]
              clear HU HF hu hz hv
              go_wp2
              go_region_held3 (fun w' => (w'.cell? ⟨w.heap.size, 0, none⟩ = some (.int .i64 n) ∧ w'.cell? ⟨w.heap.size, 1, none⟩ = some (.int .i64 (x : Int))) ∧ Below w.heap.size w w') (first | exact ⟨⟨p0, p1⟩, hB.drew⟩ | assumption | exact step_heldC hb1 (by assumption))
                (first
                  | (go_at_call 196; with_reducible refine (WK.out _).mono ?_; rintro e w' ⟨rfl, rfl⟩)
                  | (go_at_call 196; with_reducible refine (WI.out _).mono ?_; rintro e w' ⟨rfl, rfl⟩)
                  | (go_at_call 115; with_reducible refine (AK.out _).mono ?_; rintro e w' ⟨rfl, hb1⟩)
                  | (go_at_call 115; with_reducible refine (AI.out _).mono ?_; rintro e w' ⟨rfl, hb1⟩))
              go_wp2
              go_roundw
              case rel => exact ⟨k + 1, by omega, by go_num, H1, (‹(_ ∧ _) ∧ Below _ _ _›).1, (‹(_ ∧ _) ∧ Below _ _ _›).2⟩
              case measure => simp [intOf]; omega
            · have H1 := HF (by simp [hz, hv])
              have g1 : ((zi : Int) == (zk : Int)) = true := by rw [beq_cast]; simp [hz]
              have g2 : ((vi : Int) != (vk : Int)) = true := by simp; omega
              clear HU HF hu hz hv
              go_wp2
              go_region_held3 (fun w' => (w'.cell? ⟨w.heap.size, 0, none⟩ = some (.int .i64 n) ∧ w'.cell? ⟨w.heap.size, 1, none⟩ = some (.int .i64 (x : Int))) ∧ Below w.heap.size w w') (first | exact ⟨⟨p0, p1⟩, hB.drew⟩ | assumption | exact step_heldC hb1 (by assumption))
                (first
                  | (go_at_call 196; with_reducible refine (WK.out _).mono ?_; rintro e w' ⟨rfl, rfl⟩)
                  | (go_at_call 196; with_reducible refine (WI.out _).mono ?_; rintro e w' ⟨rfl, rfl⟩)
                  | (go_at_call 115; with_reducible refine (AK.out _).mono ?_; rintro e w' ⟨rfl, hb1⟩)
                  | (go_at_call 115; with_reducible refine (AI.out _).mono ?_; rintro e w' ⟨rfl, hb1⟩))
              go_wp2
              go_ret
              exact ⟨by rw [H1.out]; rfl, (‹(_ ∧ _) ∧ Below _ _ _›).2⟩
          · have H1 := HU (by simp [hz])
            have g1 : ((zi : Int) == (zk : Int)) = false := by rw [beq_cast]; simp [hz]
            clear HU HF hu hz
            go_wp2
            go_quiet (first
                | (go_at_call 196; with_reducible exact quiet_eq (WK.out _))
                | (go_at_call 196; with_reducible exact quiet_eq (WI.out _)))
            go_wp2
            go_roundw
            case rel => exact ⟨k + 1, by omega, by go_num, H1, ⟨p0, p1⟩, below_drewN hB _⟩
            case measure => simp [intOf]; omega
        · obtain rfl : k = i := by omega
          have H1 := Lib.hid (show symS x (k + 1) = true by rw [symS_succ, hm.out, hu.out]; rfl)
          go_wp2
          go_roundw
          case rel => exact ⟨k + 1, by omega, by go_num, H1, ⟨p0, p1⟩, hB⟩
          case measure => simp [intOf]; omega
    · obtain rfl : i = R := by omega
      have H1 := hm.out
      go_wp2_with (go_at_call 116; refine (RWS.out _).mono ?_; rintro e w' ⟨rfl, rfl⟩)
      go_ret
      exact ⟨by rw [H1]; rfl, hB⟩
end Go.Proofs.Ytbdhlokbpbiijaa

/- ID4:
  Values that are the first of two arguments: isFirstOfTwo of the program. -/
namespace Go.Proofs.Ytbdhlokbpbiijaa
open Go.RowKit Go.Shelf
set_option linter.unusedVariables false
set_option linter.unusedSimpArgs false

/-- The set s is 1 at arguments that do not tell: the value is that of the others. -/
def fotS (x R s : Nat) : Bool := bitN x s == 0 && bitN x (R - 1 - s) == 1
def fotT (x R : Nat) (l : List Nat) (k : Nat) : Bool := (l.take k).all (fotS x R)
def fotL (x R : Nat) (l : List Nat) : Bool := l.all (fotS x R)
theorem fotT_succ {x R : Nat} {l : List Nat} {k : Nat} (hk : k < l.length) : fotT x R l (k + 1) = (fotT x R l k && fotS x R (l[k]?.getD 0)) := by
  unfold fotT
  rw [List.take_succ_eq_append_getElem hk, List.all_append, List.getElem?_eq_getElem hk]
  simp
theorem fotT_all (x R : Nat) (l : List Nat) : fotT x R l l.length = fotL x R l := by unfold fotT fotL; rw [List.take_length]
theorem fotL_no {x R : Nat} {l : List Nat} {k : Nat} (hk : k < l.length) (h : fotS x R (l[k]?.getD 0) = false) : fotL x R l = false := by
  cases hc : fotL x R l
  · rfl
  · have := List.all_eq_true.1 hc _ (List.getElem_mem hk)
    rw [List.getElem?_eq_getElem hk] at h
    rw [← h]; exact this.symm

set_option maxRecDepth 100000 in
set_option maxHeartbeats 2000000 in
theorem isFirstOfTwo_any {n : Int} {x R : Nat} (ok : FOk n x R) {base : Nat} {s : Value} {l : List Nat} (hl : l.length ≤ 1048576) (hm : ∀ o ∈ l, o < R) (w : World) (h : Owns w base s (nL l)) :
    Calls Try.prog 197 #[.agg #[.int .i64 n, .int .i64 (x : Int)], s] w fun e w' => e = .returned (.bool (fotL x R l && idB x R)) ∧ Below w.heap.size w w' := by
  have r0 := ok.r0
  have r16 := ok.r16
  have ID := Lib.hid (fun W => isIdempotent_any ok W)
  generalize idB x R = ib at ID ⊢
  have hc : ∃ (a : Option Addr) (cap : Nat), s = .slice a l.length cap ∧ Hid (∀ j, j < l.length → ∃ g, a = some ⟨g, 0, none⟩ ∧ w.cell? ⟨g, j, none⟩ = some (.int .i64 (l[j]?.getD 0 : Nat))) := by
    rcases h.shape with ⟨he, a, cap, rfl⟩ | ⟨hn, g, cap, rfl, hbg, hg, hc, hf⟩
    · have e0 : l = [] := by cases l with
        | nil => rfl
        | cons a l => cases he
      subst e0
      exact ⟨_, _, rfl, Lib.hid fun j hj => absurd hj (Nat.not_lt_zero _)⟩
    · rw [nL_length] at hc
      exact ⟨_, _, by rw [nL_length], Lib.hid fun j hj => ⟨g, rfl, (hc.out j hj).trans (by rw [nL_get l j hj])⟩⟩
  obtain ⟨a, cap, rfl, HC⟩ := hc
  clear h
  have hG := Lib.hid (fun j (hj : j < l.length) => (show l[j]?.getD 0 < R by rw [List.getElem?_eq_getElem hj]; exact hm _ (List.getElem_mem hj)))
  have hS := Lib.hid (fun k (hk : k < l.length) => fotT_succ (x := x) (R := R) hk)
  have hT := Lib.hid (fun k (hk : k < l.length) => fotL_no (x := x) (R := R) hk)
  have hA := Lib.hid (fotT_all x R l)
  clear hm
  generalize l.length = m at hl HC hG hS hT hA ⊢
  generalize fotL x R l = B at hT hA ⊢
  have LR := Lib.hid (fun W => lastRow_is ok.h0 ok.h4 ok.r0 ok.r16 ok.hR W)
  obtain ⟨W1, hW1⟩ : ∃ W1, w.alloc (.cells #[.int .i64 n, .int .i64 (x : Int)] 25) = W1 := ⟨_, rfl⟩
  have p0 : W1.cell? ⟨w.heap.size, 0, none⟩ = some (.int .i64 n) := by rw [← hW1]; simp [go_sem]
  have p1 : W1.cell? ⟨w.heap.size, 1, none⟩ = some (.int .i64 (x : Int)) := by rw [← hW1]; simp [go_sem]
  have hB : Below w.heap.size w W1 := by rw [← hW1]; exact bnew _ _
  go_enter Try.func197, Try.ntmps197
  go_wp2
  clear hW1
  go_loopw [10] (fun i' wr => ∃ i : Nat, i ≤ m ∧ i' = .int .i64 i ∧ Hid (fotT x R l i = true) ∧ ((wr.cell? ⟨w.heap.size, 0, none⟩ = some (.int .i64 n) ∧ wr.cell? ⟨w.heap.size, 1, none⟩ = some (.int .i64 (x : Int))) ∧ Below w.heap.size w wr)) (fun i' _ => m - (intOf i').toNat)
  case atStart => exact ⟨0, Nat.zero_le _, rfl, Lib.hid rfl, ⟨p0, p1⟩, hB⟩
  case round =>
    clear p0 p1 hB
    obtain ⟨i, hi, rfl, HI, ⟨p0, p1⟩, hB⟩ := hrel
    by_cases hlt : i < m
    · obtain ⟨g, rfl, hc0⟩ := HC.out i hlt
      have hu := kc hB hc0
      have ho := hG.out i hlt
      have HS := Lib.hid (hS.out i hlt)
      have HT := Lib.hid (hT.out i hlt)
      clear hc0
      generalize l[i]?.getD 0 = o at hu ho HS HT
      have hw : IntKind.i64.wrap ((R : Int) - 1 - (o : Int)) = ((R - 1 - o : Nat) : Int) := by rw [show (R : Int) - 1 - (o : Int) = ((R - 1 - o : Nat) : Int) by omega]; exact wrap64_small (by omega) (by omega)
      have V1 := Lib.hid (fun W => valueInRow_any n x o ok.hx (by omega) W)
      have V2 := Lib.hid (fun W => valueInRow_any n x (R - 1 - o) ok.hx (by omega) W)
      have b1 := bitN_le x o
      have b2 := bitN_le x (R - 1 - o)
      unfold fotS at HS HT
      generalize bitN x (R - 1 - o) = v2 at V2 HS HT b2
      generalize bitN x o = v1 at V1 HS HT b1
      generalize R - 1 - o = o2 at V2 hw
      rcases (show v1 = 1 ∨ (v1 = 0 ∧ v2 = 0) ∨ (v1 = 0 ∧ v2 = 1) by omega) with rfl | ⟨rfl, rfl⟩ | ⟨rfl, rfl⟩
      · have HF := Lib.hid (HT.out rfl)
        clear HS HT
        go_wp2_with (first
          | (go_at_call 217; refine (LR.out _).mono ?_; rintro e w' ⟨rfl, rfl⟩)
          | (go_at_call 97; with_reducible refine (V1.out _).mono ?_; rintro e w2 ⟨rfl, hb2⟩))
        go_ret
        exact ⟨by rw [HF.out]; rfl, bthen hB hb2⟩
      · have HF := Lib.hid (HT.out rfl)
        clear HS HT
        go_wp2_with (go_at_call 217; refine (LR.out _).mono ?_; rintro e w' ⟨rfl, rfl⟩)
        refine (V1.out _).mono ?_
        rintro e w2 ⟨rfl, hb2⟩
        have q0 := kc hb2 p0
        have q1 := kc hb2 p1
        have hB2 := bthen hB hb2
        clear p0 p1 hB hu
        go_wp2_with fail
        refine (V2.out _).mono ?_
        rintro e w3 ⟨rfl, hb3⟩
        go_wp2
        go_ret
        exact ⟨by rw [HF.out]; rfl, bthen hB2 hb3⟩
      · have HN := Lib.hid (show fotT x R l (i + 1) = true by rw [HS.out, HI.out]; rfl)
        clear HS HT
        go_wp2_with (go_at_call 217; refine (LR.out _).mono ?_; rintro e w' ⟨rfl, rfl⟩)
        refine (V1.out _).mono ?_
        rintro e w2 ⟨rfl, hb2⟩
        have q0 := kc hb2 p0
        have q1 := kc hb2 p1
        have hB2 := bthen hB hb2
        clear p0 p1 hB hu
        go_wp2_with fail
        refine (V2.out _).mono ?_
        rintro e w3 ⟨rfl, hb3⟩
        have y0 := kc hb3 q0
        have y1 := kc hb3 q1
        have hB3 := bthen hB2 hb3
        clear q0 q1 hB2
        go_wp2
        go_roundw
        case rel => exact ⟨i + 1, by omega, by go_num, HN, ⟨y0, y1⟩, hB3⟩
        case measure => simp [intOf]; omega
    · obtain rfl : i = m := by omega
      have HE := Lib.hid (hA.out.symm.trans HI.out)
      go_wp2_with (go_at_call 147; refine (ID.out _).mono ?_; rintro e w2 ⟨rfl, hb2⟩)
      go_ret
      exact ⟨by rw [HE.out]; rfl, bthen hB hb2⟩
end Go.Proofs.Ytbdhlokbpbiijaa

/- ID5:
  Near unanimity of the program: hasNearUnanimity. -/
namespace Go.Proofs.Ytbdhlokbpbiijaa
open Go.RowKit Go.Shelf
set_option linter.unusedVariables false
set_option linter.unusedSimpArgs false

/-- The sets of one argument. -/
def pws (n : Nat) : List Nat := (List.range n).map fun i => 2 ^ i
theorem pws_len (n : Nat) : (pws n).length = n := by simp [pws]
theorem pws_succ (n : Nat) : nL (pws (n + 1)) = nL (pws n) ++ [((2 ^ n : Nat) : Int)] := by
  rw [← nL_snoc]; unfold pws; rw [List.range_succ, List.map_append]; rfl
theorem pws_lt {n o : Nat} (h : o ∈ pws n) : o < 2 ^ n := by
  simp only [pws, List.mem_map, List.mem_range] at h
  obtain ⟨i, hi, rfl⟩ := h
  exact Nat.pow_lt_pow_right (by decide) hi
def nearB (n x R : Nat) : Bool := decide (3 ≤ n) && (fotL x R (pws n) && idB x R)

set_option maxRecDepth 100000 in
set_option maxHeartbeats 2000000 in
theorem hasNearUnanimity_any {n : Int} {x R : Nat} (ok : FOk n x R) (w : World) :
    Calls Try.prog 152 #[.agg #[.int .i64 n, .int .i64 (x : Int)]] w fun e w' => e = .returned (.bool (nearB n.toNat x R)) ∧ Below w.heap.size w w' := by
  obtain ⟨i0, hi, hz0, hz1, hz2⟩ := info_parts infoI
  obtain ⟨m, rfl⟩ : ∃ m : Nat, n = (m : Int) := Int.eq_ofNat_of_zero_le ok.h0
  have m4 : m ≤ 4 := by have := ok.h4; omega
  have hmn : ((m : Int)).toNat = m := by omega
  have he : R = 2 ^ m := by have := ok.he; rwa [hmn] at this
  rw [hmn]
  have FT := Lib.hid (fun W base s (h : Owns W base s (nL (pws m))) => isFirstOfTwo_any ok (by rw [pws_len]; omega) (fun o ho => by rw [he]; exact pws_lt ho) W h)
  clear he hmn
  unfold nearB
  generalize (fotL x R (pws m) && idB x R) = fb at FT ⊢
  obtain ⟨W1, hW1⟩ : ∃ W1, w.alloc (.cells #[.int .i64 (m : Int), .int .i64 (x : Int)] 25) = W1 := ⟨_, rfl⟩
  have p0 : W1.cell? ⟨w.heap.size, 0, none⟩ = some (.int .i64 (m : Int)) := by rw [← hW1]; simp [go_sem]
  have p1 : W1.cell? ⟨w.heap.size, 1, none⟩ = some (.int .i64 (x : Int)) := by rw [← hW1]; simp [go_sem]
  have hB : Below w.heap.size w W1 := by rw [← hW1]; exact bnew _ _
  go_enter Try.func152, Try.ntmps152
  go_wp2
  clear hW1
  go_loopw [3, 7] (fun s i' wr => ∃ k : Nat, k ≤ m ∧ i' = .int .i64 k ∧ Hid (Owns wr W1.heap.size s (nL (pws k))) ∧ Below W1.heap.size W1 wr) (fun _ i' _ => m - (intOf i').toNat)
  case atStart => exact ⟨0, Nat.zero_le _, rfl, Lib.hid (Owns.nil _ _), Below.refl _ _⟩
  case round =>
    obtain ⟨k, hk, rfl, HOWN, hN⟩ := hrel
    have hsz := hN.size
    have q0 := kc hN p0
    have q1 := kc hN p1
    by_cases hlt : k < m
    · have hv := shl_one k (by omega)
      have HS := Lib.hid (pws_succ k)
      have hlen : (nL (pws k)).length = k := by rw [nL_length, pws_len]
      have hown := HOWN.out
      unfold Owns at hown
      rw [hlen] at hown
      clear hlen
      generalize (2 : Nat) ^ k = q at hv HS
      go_wp2_with (at_builtin; refine wpList_append_own _ rfl _ _ 27 rfl W1.heap.size 2 i0 (.int .i64 0) 1 8 Try.underlying27 hi hz0 hz1 hz2 rfl (by decide) _ _ _ rfl (hown.alloc _) ⟨wr.heap.size, 0, none⟩ 1 1 [.int .i64 (q : Int)] rfl rfl (cell_one_new _ _ _) (one_cell_int _) (by unfold maxLen; omega) (by omega) (by simp; omega) ?_)
      intro v' w1 hown' hgrow _
      have hN' := (balloc hN (.cells #[.int .i64 (q : Int)] 2)).grown hgrow (by simp; omega) (fun j e => (World.ownsRow.lt hown j e).1)
      clear hgrow hown hN
      go_wp2
      go_roundw
      case rel => exact ⟨k + 1, by omega, by go_num, Lib.hid (by rw [HS.out]; unfold Owns; rw [ints_snoc, List.length_append, nL_length, pws_len]; exact hown'), hN'⟩
      case measure => simp [intOf]; omega
    · obtain rfl : k = m := by omega
      have hBN := bthen hB hN
      by_cases h3 : 3 ≤ k
      · have hd : decide ((3 : Int) ≤ (k : Int)) = true := decide_eq_true (by omega)
        have hd2 : decide (3 ≤ k) = true := decide_eq_true h3
        have F2 := Lib.hid (FT.out wr _ _ HOWN.out)
        go_wp2_with (go_at_call 197; refine (F2.out).mono ?_; rintro e w2 ⟨rfl, hb2⟩)
        go_ret
        exact ⟨by first | rfl | simp [hd2], bthen hBN hb2⟩
      · have hd : decide ((3 : Int) ≤ (k : Int)) = false := decide_eq_false (by omega)
        have hd2 : decide (3 ≤ k) = false := decide_eq_false h3
        go_wp2
        go_ret
        exact ⟨by first | rfl | simp [hd2], hBN⟩
end Go.Proofs.Ytbdhlokbpbiijaa
