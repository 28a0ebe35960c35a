/-
  The texts NQ4, NX2, NU1, NQ5, NQ6, CM2, N1, Q1, Q2, Q3 in one.
-/
import Derived.Test.YtbdhlokbpbiijabMPIsAbelian1
import Derived.BigRegion
import Derived.Maps.OwnSet
import Derived.Maps.Views
import Derived.DeepKeys5

/- NQ4:
  stepsOf: all functions that can be put into one, as a function that is ranged over. -/
namespace Go.Proofs.Ytbdhlokbpbiijab
open Go.RowKit Go.Shelf
set_option linter.unusedVariables false
set_option linter.unusedSimpArgs false

theorem putFrom_allV {v : Nat → Nat} (hv : ∀ q, v q < 2 ^ 4) (l T U K m N L : Nat) (S : Nat → Prop) (sg : Value) (gs : List Nat) (J Jx : List OutV → World → Prop) (hJ : Firm K J) (fx : PutFixV T U L m K S sg gs)
    (hY : ∀ pre x W, J pre W → pre.length < N → Vis m K x W → YieldAt Fence.wide 1 Try.prog l (encSV x) W fun e W' =>
      Above S W W' ∧ ((e = .returned (.bool true) ∧ J (pre ++ [x]) W') ∨ (e = .returned (.bool false) ∧ Jx (pre ++ [x]) W'))) (d : Nat) :
    ∀ p pre tr pu W, PutPreV v T U L m d K N S J sg gs p pre tr pu W →
      Calls Try.prog 149 #[.agg #[.slice (some ⟨T, 0, none⟩) L L, .slice (some ⟨U, 0, none⟩) m m, sg], .int .i64 (p.length : Int), .func (.yield l) #[] #[]] W (PutPostV hv T U L m d S J Jx gs p pre tr W) := by
  induction d with
  | zero =>
    intro p pre tr pu W h
    have hp : p.length = m := by have := h.hp; omega
    rw [hp]
    have lT : T < W.heap.size := (World.ownsRow.lt h.hm.ot T rfl).2
    have lU : U < W.heap.size := (World.ownsRow.lt h.hm.ou U rfl).2
    have hN : pre.length < N := by have := h.hN; rw [Nat.pow_zero] at this; omega
    refine ((callsIn_wide (n := 3)).1 (putFrom_zeroV hv l T U K m N L S sg J Jx hJ fx.hL hY 3 p hp pre tr pu W fx.kU h.hpu h.hpb h.hm h.hlev h.hj hN lT lU h.hK)).mono ?_
    rintro e W' (⟨rfl, ha, hj⟩ | ⟨rfl, hq⟩)
    · refine .inl ⟨rfl, ha.mono (fun k hk => hk.1), ⟨tr, pu, ⟨owns_above h.hm.ot ha (fun k e => by cases e; exact fx.kS _ fx.kT), owns_above h.hm.ou ha (fun k e => by cases e; exact fx.kS _ fx.kU), h.hm.lt, h.hm.lu⟩, fun _ _ => rfl, h.hpu⟩, ?_⟩
      rw [outs_zeroV]; exact hj
    · exact .inr ⟨rfl, _, by rw [outs_zeroV]; exact List.prefix_refl _, hq⟩
  | succ d ih => exact fun p pre tr pu W h => putFrom_succV hv l T U K m N L S sg gs J Jx hJ fx d ih p pre tr pu W h

theorem made_zerosV (c : Nat) : madeCells (Value.int .i64 0).cells c = (ints (List.replicate c 0)).toArray := by
  apply Array.ext'
  rw [List.toList_toArray]
  exact (toList_madeCells_one (.int .i64 0) c).trans (by simp [ints])

theorem Firm.belowV {β : Type} {K : Nat} {J : β → World → Prop} (h : Firm K J) {s : β} {W W' : World} (hs : J s W) (hb : Below W.heap.size W W') : J s W' :=
  h s W W' none hs ⟨hb.os, hb.tape, hb.output, hb.size, fun k hk _ => hb.block k hk⟩ (fun r e => by cases e)
theorem own_laidV {V : World} {T n : Nat} {xs : List Int} (h : V.heap[T]? = some (.cells (ints xs).toArray 2 (0, 0))) (hn : xs.length = n) (hm : n ≤ 1000) : Owns V T (.slice (some ⟨T, 0, none⟩) n n) xs := by
  subst hn
  have hl : (ints xs).length = xs.length := by simp [ints]
  exact ⟨by rw [hl, Nat.mul_one], .inr ⟨T, xs.length, (ints xs).toArray, rfl, Nat.le_refl _, h, Nat.le_refl _, by unfold maxLen; omega, by rw [List.size_toArray, hl, Nat.mul_one], by rw [List.toList_toArray, Nat.mul_one, ← hl, List.take_length]⟩⟩
theorem cells3_laidV {V : World} {B : Nat} {u0 u1 u2 : Value} {t : TypeId} (h : V.heap[B]? = some (.cells #[u0, u1, u2] t (0, 0))) : V.cell? ⟨B, 0, none⟩ = some u0 ∧ V.cell? ⟨B, 1, none⟩ = some u1 ∧ V.cell? ⟨B, 2, none⟩ = some u2 := by
  refine ⟨?_, ?_, ?_⟩ <;> simp [World.cell?, h]

theorem frozen_ownV {W : World} {base g n cap : Nat} {xs : List Int} (h : Owns W base (.slice (some ⟨g, 0, none⟩) n cap) xs) (hn : n = xs.length) (j : Nat) : W.frozen? ⟨g, j, none⟩ = false := by
  subst hn; exact World.ownsRow.frozenAt h j

theorem three_laidV (W : World) (o1 o2 o3 : Obj) : (((W.alloc o1).alloc o2).alloc o3).drew.heap[W.heap.size]? = some o1 ∧ (((W.alloc o1).alloc o2).alloc o3).drew.heap[W.heap.size + 1]? = some o2 ∧ (((W.alloc o1).alloc o2).alloc o3).drew.heap[W.heap.size + 1 + 1]? = some o3 ∧ Below W.heap.size W (((W.alloc o1).alloc o2).alloc o3).drew := by
  have e1 : (W.alloc o1).heap.size = W.heap.size + 1 := by simp
  have e2 : ((W.alloc o1).alloc o2).heap.size = W.heap.size + 1 + 1 := by simp
  have g1 := heap_alloc_new W o1
  have g2 := heap_alloc_new (W.alloc o1) o2
  have g3 := heap_alloc_new ((W.alloc o1).alloc o2) o3
  rw [e1] at g2
  rw [e2] at g3
  refine ⟨?_, ?_, g3, (balloc (balloc (bnew _ _) _) _).drew⟩
  · exact (Below.heap_alloc _ _ _ (by rw [e2]; omega)).trans ((Below.heap_alloc _ _ _ (by rw [e1]; omega)).trans g1)
  · exact (Below.heap_alloc _ _ _ (by rw [e2]; omega)).trans g2

set_option maxRecDepth 100000 in
set_option maxHeartbeats 8000000 in
theorem steps1_anyV {x R m N : Nat} (ok : FOk (m : Int) x R) (m4 : m ≤ 4) (l Bf Bg Bn K : Nat) (S : Nat → Prop) (sg : Value) (gs : List Nat) (g16 : ∀ a, a ∈ gs → a < 16) (gl : gs.length ≤ 16) (hN : gs.length ^ m ≤ N)
    (J Jx : List OutV → World → Prop) (hJ : Firm K J) (kS : ∀ k, K ≤ k → S k) (gS : ∀ k, sg.ownBlock = some k → S k)
    (hY : ∀ pre x W, J pre W → pre.length < N → Vis m K x W → YieldAt Fence.wide 1 Try.prog l (encSV x) W fun e W' =>
      Above S W W' ∧ ((e = .returned (.bool true) ∧ J (pre ++ [x]) W') ∨ (e = .returned (.bool false) ∧ Jx (pre ++ [x]) W')))
    (W : World) (p0 : W.cell? ⟨Bf, 0, none⟩ = some (.int .i64 (m : Int))) (p1 : W.cell? ⟨Bf, 1, none⟩ = some (.int .i64 (x : Int))) (cg : W.cell? ⟨Bg, 0, none⟩ = some sg) (cn : W.cell? ⟨Bn, 0, none⟩ = some (.int .i64 2))
    (hg : Owns W 0 sg (nI gs)) (hK : K ≤ W.heap.size) (hj : J [] W) :
    Calls Try.prog 146 #[.func (.yield l) #[] #[], .pointer (some ⟨Bf, 0, none⟩), .pointer (some ⟨Bg, 0, none⟩), .pointer (some ⟨Bn, 0, none⟩)] W fun e W' => (∃ v, e = .returned v) ∧
      ((∃ sp, J (outsV sp (v := fun q => bitN x q * 15) (fun q => by have := bitN_le x q; show bitN x q * 15 < 16; omega) gs [] m) W') ∨ (∃ sp q, q <+: outsV sp (v := fun q => bitN x q * 15) (fun q => by have := bitN_le x q; show bitN x q * 15 < 16; omega) gs [] m ∧ Jx q W')) := by
  obtain ⟨i0, hi, hz0, hz1, hz2⟩ := info_parts infoI
  have r16 := ok.r16
  obtain ⟨sa, cap, rfl⟩ : ∃ a cap, sg = .slice a gs.length cap := owns_len hg (nI_length gs)
  have hmk : ∀ (c : Nat) (W : World), c ≤ 32 → (Instr.makeSlice 25 (.int .i64 (c : Int)) (.int .i64 (c : Int))).run Try.prog W = .ok (.slice (some ⟨W.heap.size, 0, none⟩) c c) (W.alloc (.cells (ints (List.replicate c 0)).toArray 2)) := fun c W hc => by
    have h := run_make (P := Try.prog) W 25 2 i0 (.int .i64 0) Try.underlying25 hi hz0 .i64 .i64 (c : Int) (c : Int) (by omega) (by omega) (by rw [hz2]; omega) (by omega)
    rw [hz1, Nat.mul_one, Int.toNat_natCast, made_zerosV] at h
    simpa using h
  obtain ⟨L, hL⟩ : ∃ L, L = 2 * R := ⟨_, rfl⟩
  have hwL : IntKind.i64.wrap (2 * (R : Int)) = (L : Int) := by rw [wrap64_small (by omega) (by omega)]; omega
  have hmkL := fun W => hmk L W (by omega)
  have hmkm := fun W => hmk m W (by omega)
  have lf : Bf < W.heap.size := cell_lt p0
  have lg : Bg < W.heap.size := cell_lt cg
  have ln : Bn < W.heap.size := cell_lt cn
  have lf0 : ¬ Bf = W.heap.size := by omega
  have lfr0 : ¬ W.heap.size = Bf := by omega
  have lfl0 : Bf < W.heap.size := by omega
  have lf1 : ¬ Bf = W.heap.size + 1 := by omega
  have lfr1 : ¬ W.heap.size + 1 = Bf := by omega
  have lfl1 : Bf < W.heap.size + 1 := by omega
  have lf2 : ¬ Bf = W.heap.size + 1 + 1 := by omega
  have lfr2 : ¬ W.heap.size + 1 + 1 = Bf := by omega
  have lfl2 : Bf < W.heap.size + 1 + 1 := by omega
  have lg0 : ¬ Bg = W.heap.size := by omega
  have lgr0 : ¬ W.heap.size = Bg := by omega
  have lgl0 : Bg < W.heap.size := by omega
  have lg1 : ¬ Bg = W.heap.size + 1 := by omega
  have lgr1 : ¬ W.heap.size + 1 = Bg := by omega
  have lgl1 : Bg < W.heap.size + 1 := by omega
  have lg2 : ¬ Bg = W.heap.size + 1 + 1 := by omega
  have lgr2 : ¬ W.heap.size + 1 + 1 = Bg := by omega
  have lgl2 : Bg < W.heap.size + 1 + 1 := by omega
  have ln0 : ¬ Bn = W.heap.size := by omega
  have lnr0 : ¬ W.heap.size = Bn := by omega
  have lnl0 : Bn < W.heap.size := by omega
  have ln1 : ¬ Bn = W.heap.size + 1 := by omega
  have lnr1 : ¬ W.heap.size + 1 = Bn := by omega
  have lnl1 : Bn < W.heap.size + 1 := by omega
  have ln2 : ¬ Bn = W.heap.size + 1 + 1 := by omega
  have lnr2 : ¬ W.heap.size + 1 + 1 = Bn := by omega
  have lnl2 : Bn < W.heap.size + 1 + 1 := by omega
  have HL := Lib.hid hL
  have HHJ := Lib.hid hj
  have HG := Lib.hid hg
  have HY := Lib.hid hY
  have HGL : Hid (∀ k, (Value.slice sa gs.length cap).ownBlock = some k → k < W.heap.size) := Lib.hid fun k e => (World.ownsRow.lt hg k e).2
  clear hL hmk hj hg hY
  go_enter Try.func146, Try.ntmps146
  go_wp2_with (go_at_call 101; refine (rowCount_is ok.h0 ok.h4 ok.hR _).mono ?_; rintro e w' ⟨rfl, rfl⟩)
  refine Code.wp_mono (Q := fun e a w' => e = .normal ∧ ∃ T U B, a = { tmps := #[.func (.yield l) #[] #[], .pointer (some ⟨Bf, 0, none⟩), .pointer (some ⟨Bg, 0, none⟩), .pointer (some ⟨Bn, 0, none⟩), undef, .int .i64 R, .pointer (some ⟨B, 0, none⟩), undef, undef, undef, undef, .pointer (some ⟨Bf, 0, none⟩), .int .i64 m, .int .i64 R, .int .i64 R, .int .i64 L, .slice (some ⟨T, 0, none⟩) L L, .pointer (some ⟨Bf, 0, none⟩), .int .i64 m, .slice (some ⟨U, 0, none⟩) m m, .slice sa gs.length cap, .agg #[.slice (some ⟨T, 0, none⟩) L L, .slice (some ⟨U, 0, none⟩) m m, .slice sa gs.length cap], undef, undef, undef, undef, undef, undef, undef, undef, undef, undef, undef, undef, undef, undef, undef, undef, undef, undef, undef, undef, undef, undef, undef, undef, undef, undef], defers := [] } ∧ (W.heap.size ≤ T ∧ W.heap.size ≤ U ∧ W.heap.size ≤ B ∧ T ≠ U ∧ B ≠ T ∧ B ≠ U) ∧ (w'.heap[T]? = some (.cells (ints (List.replicate L 0)).toArray 2 (0, 0)) ∧ w'.heap[U]? = some (.cells (ints (List.replicate m 0)).toArray 2 (0, 0)) ∧ w'.heap[B]? = some (.cells #[.slice (some ⟨T, 0, none⟩) L L, .slice (some ⟨U, 0, none⟩) m m, .slice sa gs.length cap] 154 (0, 0))) ∧ Below W.heap.size W w') ?rest ?reg
  case reg =>
    go_region
    all_goals
      obtain ⟨h1, h2, h3, hb⟩ := three_laidV W _ _ _
      refine ⟨rfl, _, _, _, rfl, ⟨?_, ?_, ?_, ?_, ?_, ?_⟩, ⟨?_, ?_, ?_⟩, hb⟩
      all_goals first | omega | exact h1 | exact h2 | exact h3
  case rest =>
  clear lf0 lfr0 lfl0 lf1 lfr1 lfl1 lf2 lfr2 lfl2 lg0 lgr0 lgl0 lg1 lgr1 lgl1 lg2 lgr2 lgl2 ln0 lnr0 lnl0 ln1 lnr1 lnl1 ln2 lnr2 lnl2
  rintro e a w2 ⟨rfl, T, U, B, rfl, ⟨t1, u1, b1, n1, n2, n3⟩, ⟨hT, hU, hBx⟩, hb⟩
  dsimp only
  have ot := own_laidV hT (List.length_replicate (n := L) (a := 0)) (by have := HL.out; omega)
  have ou := own_laidV hU (List.length_replicate (n := m) (a := 0)) (by omega)
  obtain ⟨b0, b1', b2⟩ := cells3_laidV hBx
  have hj2 := Firm.belowV hJ HHJ.out hb
  have q0 := kc hb p0
  have q1 := kc hb p1
  have qn := kc hb cn
  have hg2 := HG.out.below hb
  have sT := (World.ownsRow.lt ot T rfl).2
  have sU := (World.ownsRow.lt ou U rfl).2
  have sB : B < w2.heap.size := cell_lt b0
  have hKw : K ≤ w2.heap.size := Nat.le_trans hK hb.size
  clear hT hU hBx p0 p1 cn cg HHJ HG hmkL hmkm
  go_wp2_with fail
  refine (valuesOf_any ok _).mono ?_
  rintro e w3 ⟨s3, rfl, o3, hb3⟩
  replace ot := ot.below hb3
  replace ou := ou.below hb3
  replace b0 := kc hb3 b0
  replace b1' := kc hb3 b1'
  replace b2 := kc hb3 b2
  have hj3 := Firm.belowV hJ hj2 hb3
  replace q0 := kc hb3 q0
  replace q1 := kc hb3 q1
  replace qn := kc hb3 qn
  have hg3 := hg2.below hb3
  have r0 := ok.r0
  obtain ⟨V, cap3, rfl, hV⟩ : ∃ V cap3, s3 = .slice (some ⟨V, 0, none⟩) R cap3 ∧ w2.heap.size ≤ V := by
    rcases o3.shape with ⟨e, _⟩ | ⟨_, g, c, e, hge, _⟩
    · have := congrArg List.length e; rw [natL_len] at this; simp at this; omega
    · rw [natL_len] at e; exact ⟨g, c, e, hge⟩
  have HO3 := Lib.hid o3
  have HG3 := Lib.hid hg3
  have HOU := Lib.hid ou
  clear hj2 hg2 o3 hg3 ou
  have sz3 := hb3.size
  go_wp2_with fail
  go_loopw [25] (fun k' wr => ∃ k : Nat, k ≤ R ∧ k' = .int .i64 k ∧ Owns wr T (.slice (some ⟨T, 0, none⟩) L L) (setsN (List.replicate L 0) R (fun q => ((bitN x q * 15 : Nat) : Int)) k) ∧ Above (fun k => k ≠ T) w3 wr ∧ J [] wr)
    (fun k' _ => R - (intOf k').toNat)
  case atStart => exact ⟨0, Nat.zero_le _, rfl, ot, Above.refl _ _, hj3⟩
  case round =>
    clear ot hj3
    obtain ⟨k, hk, rfl, hot, hA, hjr⟩ := hrel
    have d0 := cell_above hA (show B ≠ T from n2) b0
    have d1 := cell_above hA (show B ≠ T from n2) b1'
    have d2 := cell_above hA (show B ≠ T from n2) b2
    have dn := cell_above hA (show Bn ≠ T by omega) qn
    have szr := hA.size
    by_cases hlt : k < R
    · have cv : wr.cell? ⟨V, k, none⟩ = some (.int .i64 (bitN x k : Int)) := by
        refine cell_above hA (show V ≠ T by omega) (cell_of_owns HO3.out (by rw [natL_len]) k _ ?_)
        simp [natL, hlt]
      have hlen := setsN_length (List.replicate L 0) R (fun q => ((bitN x q * 15 : Nat) : Int)) k
      rw [List.length_replicate] at hlen
      have hw1 : IntKind.i64.wrap ((R : Int) + (k : Int)) = ((R + k : Nat) : Int) := by rw [wrap64_small (by omega) (by omega)]; push_cast; rfl
      have hRL : R + k < L := by have := HL.out; omega
      obtain ⟨P, hP⟩ : ∃ P, P = R + k := ⟨_, rfl⟩
      rw [← hP] at hw1 hRL
      obtain ⟨u3, c3⟩ : ∃ u, wr.cell? ⟨T, P, none⟩ = some u := by
        have hl : P < (setsN (List.replicate L 0) R (fun q => ((bitN x q * 15 : Nat) : Int)) k).length := by rw [hlen]; exact hRL
        exact ⟨_, cell_of_owns hot (by rw [hlen]) P _ (List.getElem?_eq_getElem hl)⟩
      have f3 : wr.frozen? ⟨T, P, none⟩ = false := by
        exact frozen_ownV hot hlen.symm P
      have HPR := Lib.hid hP
      have HOT := Lib.hid hot
      have HC := Lib.hid (implConstantOf_yes (n := 2) (R := 4) (by decide) (by decide) (by decide) (by decide) (Lib.hid (by decide)) (by decide) (bitN x k) (bitN_le x k))
      obtain ⟨y, hy⟩ : ∃ y, y = bitN x k * 15 := ⟨_, rfl⟩
      have hv15V : (bitN x k : Int) * allN 2 = (y : Int) := by rw [hy, show allN 2 = 15 by decide]; push_cast; rfl
      have HYY := Lib.hid hy
      clear hy
      clear hP hot
      go_wp2_with (go_at_call 148; refine (HC.out _).mono ?_; rintro e w5 ⟨rfl, hb5⟩; rw [hv15V]; have e0 := kc hb5 d0; have e3 := kc hb5 c3; have k3 := kf hb5 c3 f3; have l5 := hb5.size; have lT5 : T < w5.heap.size := cell_lt e3; have lB5 : B < w5.heap.size := cell_lt e0)
      go_roundw
      case rel =>
        refine ⟨k + 1, by omega, by go_num, ?_, ?_, ?_⟩
        · have hst := (owns_set (HOT.out.below hb5) hlen.symm P (y : Int)).below (bnew _ (.cells #[.int .i64 2, .int .i64 (y : Int)] 43))
          have e : (setsN (List.replicate L 0) R (fun q => ((bitN x q * 15 : Nat) : Int)) k).set P (y : Int) = setsN (List.replicate L 0) R (fun q => ((bitN x q * 15 : Nat) : Int)) (k + 1) := by
            rw [setsN, HPR.out, HYY.out]
          rw [e] at hst
          exact hst
        · exact hA.trans ((Above.below hb5).trans ((Above.grown (grownSet w5 T P (.int .i64 (y : Int))) (fun r e h => by cases e; exact h rfl)).trans (Above.below (bnew _ _))))
        · exact hJ.alloc _ (Firm.setV hJ T P _ (Firm.belowV hJ hjr hb5) (by omega))
      case measure => simp [intOf]; omega
    · obtain rfl : k = R := by omega
      have hm : SMemV T U L m (setsN (List.replicate L 0) k (fun q => ((bitN x q * 15 : Nat) : Int)) k) (List.replicate m 0) wr :=
        ⟨hot, owns_above HOU.out hA (fun k e => by cases e; exact fun h => n1 h.symm), by rw [setsN_length, List.length_replicate], List.length_replicate⟩
      have hk2 : k = 2 ^ m := by have := ok.he; simpa using this
      have hLm : L = 2 ^ (m + 1) := by rw [HL.out, hk2, Nat.pow_succ, Nat.mul_comm]
      have PA := putFrom_allV (v := fun q => bitN x q * 15) (fun q => by have := bitN_le x q; show bitN x q * 15 < 16; omega) l T U K m N L S (.slice sa gs.length cap) gs J Jx hJ
        ⟨hLm, m4, by omega, by omega, n1, kS, fun b e => ⟨gS b e, by have := HGL.out b e; omega, by have := HGL.out b e; omega⟩, g16, gl⟩ HY.out m [] [] _ _ wr
        ⟨by simp, hm, fun q hq => by rw [← hk2] at hq ⊢; exact setsN_in _ _ _ _ _ hq (by rw [List.length_replicate, HL.out]; omega), hjr, by simpa using hN, by omega, owns_above HG3.out hA (fun b e => by have := HGL.out b e; omega), rfl, fun b hb => absurd hb List.not_mem_nil⟩
      have HPA := Lib.hid PA
      clear PA hm hot hjr hk2 hLm
      go_wp2_with (go_at_call 149; refine HPA.out.mono ?_; rintro e w9 (⟨rfl, _, _, hj9⟩ | ⟨rfl, q, hqp, hq9⟩))
      · go_end0
        exact ⟨⟨_, rfl⟩, .inl ⟨_, hj9⟩⟩
      · go_end0
        exact ⟨⟨_, rfl⟩, .inr ⟨_, q, hqp, by simpa using hq9⟩⟩
end Go.Proofs.Ytbdhlokbpbiijab

/- NX2:
  A range over a function whose iterator keeps cells of its own, as NX1: and what can be seen of an element when it is handed out (Vis, of blocks from K on). -/
namespace Go.Proofs.Ytbdhlokbpbiijab
open Go Go.RowKit

set_option linter.unusedVariables false

/-- **The contract**: at whatever loop l whose rounds keep the blocks of T, and whose word speaks of blocks below K alone, K at most the heap's size at the call. -/
def SeqXV {α : Type} (F : Fence) (n : Nat) (P : Program) (g : Nat) (lb : Array Value) (encs : α → Array Value) (S Sp : List α → Prop) (N K : Nat) (T : Nat → Prop) (Vis : Nat → α → World → Prop) (w : World) : Prop :=
  ∀ (l : Nat) (J Jx : List α → World → Prop) (W : World), Below w.heap.size w W → K ≤ W.heap.size → Firm K J → Firm K Jx →
    (∀ pre x W1, J pre W1 → pre.length < N → Vis K x W1 → YieldAt F (n - 1) P l (encs x) W1 fun e W' =>
      Above T W1 W' ∧ ((e = .returned (.bool true) ∧ J (pre ++ [x]) W') ∨ (e = .returned (.bool false) ∧ Jx (pre ++ [x]) W'))) →
    J [] W →
    CallsIn F n P g (#[.func (.yield l) #[] #[]] ++ lb) W fun e W' => (∃ v, e = .returned v) ∧ ((∃ xs, S xs ∧ J xs W') ∨ (∃ pre, Sp pre ∧ Jx pre W'))

variable {F : Fence} {n : Nat} {P : Program}

/-- **The law of who ranges over it.** -/
theorem wpIn_rangeFunc_XV {α : Type} {g : Operand} {ps : Array Tmp} {assign body : Code} {Q : Exit → Act → World → Prop} {a : Act} {w : World}
    (hro : F.round = none) (h1 : 1 ≤ n) {gf : Nat} {lb : Array Value} (hg : a.eval g = .func (.func gf) #[] lb) (hFg : F.fn gf) (eg : ∀ args w, (callFunc gf args).run P w = .ok (.enter gf args) w)
    {encs : α → Array Value} {S Sp : List α → Prop} {N : Nat} {T : Nat → Prop} {Vis : Nat → α → World → Prop} {w0 : World} (hT : ¬ T (w.heap.size + 1)) (hseq : SeqXV F (n - 1) P gf lb encs S Sp N (w.heap.size + 2) T Vis w0)
    (hVs : ∀ x W W' row, Vis (w.heap.size + 2) x W → W.grownBy W' row → (∀ r, row = some r → r < w.heap.size + 2) → Vis (w.heap.size + 2) x W')
    (hb0 : Below w0.heap.size w0 w) (hps : ∀ x, (encs x).size = ps.size)
    (I : List α → World → Prop) (Ix : Code → List α → World → Prop) (hI : Firm w.heap.size I) (hIx : ∀ c, Firm w.heap.size (Ix c)) (h0 : I [] w) (a₁ : α → Act)
    (hassign : ∀ (l : Nat) (x : α) (W : World) (K : Act → World → Prop), K (a₁ x) W →
      assign.wpIn (F.inRound l) (n - 1 - 1) P (Exit.then K (fun _ _ _ => False)) { tmps := (ps.zip (encs x)).foldl (fun t (p, v) => t.setIfInBounds p v) a.tmps, defers := [] } W)
    (hbody : ∀ (l : Nat) (pre : List α) (x : α) (W : World), I pre W → pre.length < N → Vis (w.heap.size + 2) x W → body.wpIn (F.inRound l) (n - 1 - 1) P (postX w.heap.size T I Ix (pre ++ [x]) W) (a₁ x) W)
    (hdone : ∀ (D : Nat) (xs : List α) (W : World), w.heap.size ≤ D → S xs → I xs W → W.heap[D]? = some (.deferred (some [])) → Q .normal { a with defers := { target := .collected D, args := #[] } :: a.defers } W)
    (hstop : ∀ (D : Nat) (c : Code) (pre : List α) (W : World), w.heap.size ≤ D → Sp pre → Ix c pre W → W.heap[D]? = some (.deferred (some [])) → c.wpIn F n P Q { a with defers := { target := .collected D, args := #[] } :: a.defers } W) :
    (Code.rangeFunc g ps assign body).wpIn F n P Q a w := by
  refine wpIn_rangeFunc fun fn hfn => ?_
  rw [hro]
  -- the loop's record, as a function of its state and its pending jump; the world with both blocks of book-keeping
  let D := w.heap.size
  let L := w.heap.size + 1
  let rec' : LoopState → Option Code → Obj := fun st pe => .loop { state := st, pending := pe, fn, tmps := a.tmps, params := ps, assign, body, defers := D }
  obtain ⟨V, hV⟩ : ∃ V, (w.alloc (.deferred (some []))).alloc (rec' .ready none) = V := ⟨_, rfl⟩
  have sV : V.heap.size = w.heap.size + 2 := by rw [← hV]; simp
  have hL : V.heap[L]? = some (rec' .ready none) := by
    rw [← hV]; have := World.alloc_heap_new (w.alloc (.deferred (some []))) (rec' .ready none); rwa [World.size_alloc] at this
  have hD : V.heap[D]? = some (.deferred (some [])) := by
    rw [← hV]; exact (Below.heap_alloc _ _ _ (by simp [D])).trans (World.alloc_heap_new w _)
  have hIV : I [] V := by rw [← hV]; exact hI.alloc _ (hI.alloc _ h0)
  have hBV : Below w0.heap.size w0 V := by
    rw [← hV]; exact (hb0.alloc hb0.size _).alloc (by simp; have := hb0.size; omega) _
  refine ⟨L, [{ target := .collected D, args := #[] }], V, { target := .fn (.func gf) lb, args := #[.func (.yield L) #[] #[]] }, V, gf, #[.func (.yield L) #[] #[]] ++ lb, V, ?_, ?_, ?_, ?_, fun _ => h1, ?_⟩
  · rw [← hV]; exact run_enterLoop_outer _ _ _ _ _
  · simp only [resolve, hg]; simp [go_sem]
  · intro f' hf'; simp [Target.leads] at hf'; subst hf'; exact hFg
  · simp [invoke, go_sem, eg]
  have fL : ∀ o, Firm (w.heap.size + 2) (fun (_ : List α) W => W.heap[L]? = some o) := fun o => firm_block (by simp [L]) o
  have fD : Firm (w.heap.size + 2) (fun (_ : List α) W => W.heap[D]? = some (.deferred (some []))) := firm_block (by simp [D]) _
  have fI : Firm (w.heap.size + 2) I := hI.mono (by omega)
  refine (hseq L (fun pre W => I pre W ∧ (W.heap[L]? = some (rec' .ready none) ∧ W.heap[D]? = some (.deferred (some []))))
    (fun pre W => ∃ c, Ix c pre W ∧ (W.heap[L]? = some (rec' .done (some c)) ∧ W.heap[D]? = some (.deferred (some []))))
    V hBV (by omega) (fI.and ((fL _).and fD))
    (fun s A B row hs hg' hr => by
      obtain ⟨c, hc, hk⟩ := hs
      exact ⟨c, (hIx c).mono (Nat.le_add_right _ 2) s A B row hc hg' hr, ((fL _).and fD) s A B row hk hg' hr⟩)
    ?_ ⟨hIV, hL, hD⟩).mono ?_
  · -- one round
    rintro pre x W ⟨hi, hl, hd⟩ hlen hvis
    have hlt : L < W.heap.size := (Array.getElem?_eq_some_iff.1 hl).1
    refine ⟨fn, _, assign, body, run_yield (P := P) (args := encs x) hl (hps x), roundIn_of_wpIn hfn (hassign _ x W _ ⟨_, run_beginRound hl rfl, ?_⟩)⟩
    obtain ⟨Wb, hWb⟩ : ∃ Wb, W.putObj L (rec' .busy none) = Wb := ⟨_, rfl⟩
    have hlb : Wb.heap[L]? = some (rec' .busy none) := by rw [← hWb]; exact World.putObj_heap_same hlt
    have hdb : Wb.heap[D]? = some (.deferred (some [])) := by rw [← hWb]; exact (World.putObj_heap_other (by simp [D, L])).trans hd
    have hib : I pre Wb := by rw [← hWb]; exact hI.put _ _ hi (by simp [L])
    have hab : Above T W Wb := by rw [← hWb]; exact Above.put _ _ _ hT
    change body.wpIn _ _ _ _ _ (W.putObj L (rec' .busy none))
    rw [hWb]
    have hvb : Vis (w.heap.size + 2) x Wb := by rw [← hWb]; exact hVs x W _ (some L) hvis (grownBy_putObj' W L _) (fun r e => by cases e; simp [L])
    refine wpIn_mono (hbody L pre x Wb hib hlen hvb) ?_
    -- the round's end: the record and the block behind it lie as they lay
    have fin : ∀ (jump : Option Code) (W3 : World), KeepsFrom w.heap.size Wb W3 → Above T Wb W3 →
        ∃ W4, (Instr.endRound L jump).run P W3 = .ok (.bool jump.isNone) W4 ∧ W4.heap[L]? = some (rec' (if jump.isNone then .ready else .done) jump) ∧ W4.heap[D]? = some (.deferred (some [])) ∧ Above T W W4 ∧
          (∀ (J : List α → World → Prop), Firm w.heap.size J → ∀ ys, J ys W3 → J ys W4) := fun jump W3 hk ha => by
      have hl3 := hk.same L _ (by simp [L]) hlb rfl
      have hd3 := hk.same D _ (Nat.le_refl _) hdb rfl
      refine ⟨_, run_endRound (P := P) jump hl3, World.putObj_heap_same (Array.getElem?_eq_some_iff.1 hl3).1, (World.putObj_heap_other (by simp [D, L])).trans hd3, (hab.trans ha).trans (Above.put _ _ _ hT), fun J hJ ys h => hJ.put _ _ h (by simp [L])⟩
    rintro e a3 W3 hp
    cases e with
    | normal =>
      obtain ⟨⟨hk, ha⟩, hi3⟩ := hp
      obtain ⟨W4, hr, hl4, hd4, ha4, hj⟩ := fin none W3 hk ha
      exact ⟨_, _, hr, ha4, .inl ⟨rfl, hj I hI _ hi3, hl4, hd4⟩⟩
    | ret =>
      obtain ⟨⟨hk, ha⟩, hi3⟩ := hp
      obtain ⟨W4, hr, hl4, hd4, ha4, hj⟩ := fin (some .ret) W3 hk ha
      exact ⟨_, _, hr, ha4, .inr ⟨rfl, .ret, hj _ (hIx _) _ hi3, hl4, hd4⟩⟩
    | exit id =>
      obtain ⟨⟨hk, ha⟩, hi3⟩ := hp
      obtain ⟨W4, hr, hl4, hd4, ha4, hj⟩ := fin (some (.exit id)) W3 hk ha
      exact ⟨_, _, hr, ha4, .inr ⟨rfl, .exit id, hj _ (hIx _) _ hi3, hl4, hd4⟩⟩
    | goto t =>
      obtain ⟨⟨hk, ha⟩, hi3⟩ := hp
      obtain ⟨W4, hr, hl4, hd4, ha4, hj⟩ := fin (some (.goto t)) W3 hk ha
      exact ⟨_, _, hr, ha4, .inr ⟨rfl, .goto t, hj _ (hIx _) _ hi3, hl4, hd4⟩⟩
    | panic ch => exact hp.elim
    | outgrown => exact hp.elim
  · -- behind the iterator
    rintro e W2 ⟨⟨v, rfl⟩, (⟨xs, hS, hi, hl, hd⟩ | ⟨pre, hSp, c, hi, hl, hd⟩)⟩
    · exact ⟨none, _, run_endLoop (P := P) hl (by simp), hdone D xs _ (Nat.le_refl _) hS (hI.put _ _ hi (by simp [L])) ((World.putObj_heap_other (by simp [D, L])).trans hd)⟩
    · exact ⟨some c, _, run_endLoop (P := P) hl (by simp), hstop D c pre _ (Nat.le_refl _) hSp ((hIx c).put _ _ hi (by simp [L])) ((World.putObj_heap_other (by simp [D, L])).trans hd)⟩
end Go.Proofs.Ytbdhlokbpbiijab

/- NU1:
  The numbers of the tuples of a relation, in the program. -/
namespace Go.Proofs.Ytbdhlokbpbiijab
open Go.RowKit Go.Shelf
attribute [local go_sem] Oper.semAt_some
set_option linter.unusedVariables false
set_option linter.unusedSimpArgs false

/-- .. those handed out so far. -/
def tupF {R : Nat} (x : Nat) (pre : List (Row R)) : List Int := nI ((pre.map (·.1)).filter fun t => bitN x t == 1)
theorem tupF_yes {R : Nat} (x : Nat) (pre : List (Row R)) (y : Row R) (h : bitN x y.1 = 1) : tupF x (pre ++ [y]) = tupF x pre ++ [(y.1 : Int)] := by simp [tupF, nI, h]
theorem tupF_no {R : Nat} (x : Nat) (pre : List (Row R)) (y : Row R) (h : bitN x y.1 ≠ 1) : tupF x (pre ++ [y]) = tupF x pre := by simp [tupF, nI, h]
theorem tupF_len {R : Nat} (x : Nat) (pre : List (Row R)) : (tupF x pre).length ≤ pre.length := by
  rw [tupF, nI_length]
  exact Nat.le_trans (List.length_filter_le _ _) (by simp)
theorem tupF_upto {R : Nat} (hR : 0 < R) (x : Nat) : tupF x (upto hR R) = nI (tupsL x R) := by
  unfold tupF tupsL upto
  congr 2
  rw [List.map_map]
  refine (List.map_congr_left (g := id) fun k hk => ?_).trans (List.map_id _)
  exact rowAt_val hR (by simpa using hk)

set_option maxRecDepth 100000 in
set_option maxHeartbeats 4000000 in
theorem numbersOf_any {n : Int} {x R : Nat} (ok : FOk n x R) (w : World) :
    Calls Try.prog 152 #[.agg #[.int .i64 n, .int .i64 (x : Int)]] w (ListPost w.heap.size (nI (tupsL x R)) w) := by
  obtain ⟨i0, hi, hz0, hz1, hz2⟩ := info_parts infoI
  have r0 := ok.r0
  have r16 := ok.r16
  refine (callsIn_wide (n := 3)).1 ?_
  refine callsIn_of_wp_marks Try.func152 rfl trivial ?_ rfl
  simp only [Try.ntmps152, List.size_toArray, List.length_cons, List.length_nil, Nat.reduceAdd, Nat.reduceSub, Array.replicate_succ, Array.replicate_zero, List.push_toArray, List.append_toArray, List.nil_append, List.cons_append]
  gi_wp2_with (refine ⟨trivial, ?_⟩; gi_at_call 125; refine (callsIn_wide.2 (rowsOf_any _ _)).mono ?_; rintro e w' ⟨rfl, rfl⟩)
  obtain ⟨W0, hW0⟩ : ∃ W0, ((w.alloc (.cells #[.int .i64 n, .int .i64 (x : Int)] 67)).alloc (.cells #[.slice none 0 0] 25)).alloc (.cells #[.int .i64 n] 2) = W0 := ⟨_, rfl⟩
  have s0 : W0.cell? ⟨w.heap.size, 0, none⟩ = some (.int .i64 n) := by rw [← hW0]; simp [go_sem]
  have s1 : W0.cell? ⟨w.heap.size, 1, none⟩ = some (.int .i64 (x : Int)) := by rw [← hW0]; simp [go_sem]
  have hbx : Boxed W0 (w.heap.size + 1) 25 (.slice none 0 0) := by
    rw [← hW0, show w.heap.size + 1 = (w.alloc (.cells #[.int .i64 n, .int .i64 (x : Int)] 67)).heap.size by simp]; exact (Boxed.new _ _ _).alloc _
  have cM : W0.cell? ⟨w.heap.size + 1 + 1, 0, none⟩ = some (.int .i64 n) := by rw [← hW0]; simp [go_sem]
  have hsz : W0.heap.size = w.heap.size + 3 := by rw [← hW0]; simp [go_sem]
  have hB0 : Below w.heap.size w W0 := by rw [← hW0]; exact balloc (balloc (bnew _ _) _) _
  rw [hW0]
  clear hW0
  refine wpIn_rangeFunc_ownF (α := Row R) rfl (by omega) (gf := 144) (lb := #[.pointer (some ⟨w.heap.size + 1 + 1, 0, none⟩)]) rfl trivial (enters_of Try.func144 (by kernel_rfl) rfl)
    (rows_stops (3 - 1) (by omega) (w.heap.size + 1 + 1) (w.heap.size + 1) n R ok.h0 ok.h4 r0 r16 ok.hR W0 (by omega) cM) belowK_t (belowK_b (by omega)) (Below.refl _ _) (fun _ => rfl)
    (fun pre W => ((∃ v, Boxed W (w.heap.size + 1) 25 v ∧ W.ownsRow (w.heap.size + 1) 2 1 v (tupF x pre).length (ints (tupF x pre)) ∧ True) ∧ FBox w.heap.size n x W) ∧ Below w.heap.size w W)
    (fun _ _ _ => False)
    (OwnFrom.and (OwnFrom.and (Own.from (holdsRow_own (w.heap.size + 1) (w.heap.size + 1) 25 2 1 (fun pre => (tupF x pre).length) (fun pre => ints (tupF x pre)) (fun _ _ => True)) _) (Own.from (fun s A B row hs hg hr => ⟨cell_kept hs.c0 hg hr, cell_kept hs.c1 hg hr⟩) _)) (ownFrom_below (by omega) (by omega)))
    (fun _ _ _ _ _ hs _ _ => hs)
    ⟨⟨⟨_, hbx, World.ownsRow_nil _ _ _ _, trivial⟩, ⟨s0, s1⟩⟩, hB0⟩
    (fun y => { tmps := #[.agg #[.int .i64 n, .int .i64 (x : Int)], .pointer (some ⟨w.heap.size, 0, none⟩), .slice none 0 0, .pointer (some ⟨w.heap.size + 1, 0, none⟩), .int .i64 (y.1 : Int), .pointer (some ⟨w.heap.size, 0, none⟩), .int .i64 n,
      .func (.func 144) #[] #[.pointer (some ⟨w.heap.size + 1 + 1, 0, none⟩)], .int .i64 (y.1 : Int), undef, undef, undef, undef, undef, undef, undef, undef, undef, undef], defers := [] }) ?assign ?body ?done ?stop
  case assign =>
    intro l y W K hK
    unfold encRow
    gi_wp2
    exact hK
  case body =>
    clear cM s0 s1 hbx hB0
    rintro l pre y W ⟨⟨⟨v, hv, hrow, _⟩, hf⟩, hB⟩ hlen
    have c0 := hf.c0
    have c1 := hf.c1
    have hr := y.2
    have hle := tupF_len x pre
    have hbw : w.heap.size + 1 ≤ W.heap.size := Nat.le_of_lt hv.lt
    have DG := Lib.hid (fun W => digitOf_any x y.1 ok.hx (by omega) W)
    by_cases hp : bitN x y.1 = 1
    · have HC := Lib.hid (tupF_yes x pre y hp)
      have ht : ((bitN x y.1 : Int) == 1) = true := by simp [hp]
      clear hp
      generalize bitN x y.1 = bt at DG ht
      generalize y.1 = r at hr DG ⊢ HC
      generalize hlk : (tupF x pre).length = k at hle hrow
      have HLK := Lib.hid hlk
      clear hlk
      have HV := Lib.hid hv
      have dv := hv.cell
      have hv5 := hv.frozen
      gi_wp2_with (first
        | (refine ⟨trivial, ?_⟩; gi_at_call 139; refine (callsIn_wide.2 (DG.out _)).mono ?_; rintro e w' ⟨rfl, rfl⟩)
        | (gi_at_builtin; refine wpListIn_append_own _ rfl _ _ 25 rfl (w.heap.size + 1) 2 i0 (.int .i64 0) 1 8 Try.underlying25 hi hz0 hz1 hz2 rfl (by decide) _ _ _ rfl (hrow.alloc _) ⟨W.heap.size, 0, none⟩ 1 1 [.int .i64 (r : Int)] rfl rfl (cell_one_new _ _ _) (one_cell_int _) (by unfold maxLen; omega) (by omega) (by simp; omega) ?_; intro v' w1 hown' hgrow _; have HAP := Lib.hid (Boxed.appended HV.out (by decide) hrow hbw (Nat.le_refl _) hown' hgrow); obtain ⟨g5, cap5, rfl⟩ := ownsRow_succ hown'; have e5 := HAP.out.1.cell; have z5 := HAP.out.1.frozen; clear hgrow))
      obtain ⟨a1, a2, a3, a4, a5⟩ := HAP.out
      refine ⟨a4, a5, ⟨⟨_, a2, ?_, trivial⟩, ⟨(a5.cell (p := ⟨w.heap.size, 0, none⟩) (Nat.lt_succ_self _)).trans c0, (a5.cell (p := ⟨w.heap.size, 1, none⟩) (Nat.lt_succ_self _)).trans c1⟩⟩, hB.trans (a5.mono (Nat.le_succ _))⟩
      rw [HC.out, ints_snoc, List.length_append, HLK.out]
      exact a3
    · have HC := Lib.hid (tupF_no x pre y hp)
      have ht : ((bitN x y.1 : Int) == 1) = false := by simp; omega
      clear hp
      generalize bitN x y.1 = bt at DG ht
      generalize y.1 = r at hr DG ⊢ HC
      gi_wp2_with (refine ⟨trivial, ?_⟩; gi_at_call 139; refine (callsIn_wide.2 (DG.out _)).mono ?_; rintro e w' ⟨rfl, rfl⟩)
      refine ⟨KeepsOthers.refl _, Below.refl _ _, ⟨⟨v, hv, ?_, trivial⟩, ⟨c0, c1⟩⟩, hB⟩
      rw [HC.out]
      exact hrow
  case done =>
    rintro D ys W hD rfl ⟨⟨⟨v, hv, hrow, _⟩, _⟩, hB⟩ hK
    rw [tupF_upto r0] at hrow
    have dv := hv.cell
    have HR := Lib.hid hrow
    clear hrow hv
    gi_wp2
    refine ⟨by simp, .inl ⟨_, _, rfl, run_takeDeferred hK, ?_⟩⟩
    refine ⟨v, by simp [results, Try.results152, go_sem], v, rfl, ?_, hB.trans (belowK_b (w := w) (Nat.le_refl _) W D _ _ (by omega) hK rfl rfl)⟩
    exact Owns.mono (ownsRow_putObj HR.out _ hK rfl) (Nat.le_succ _)
  case stop =>
    rintro D c pre W _ _ h _
    exact h.elim
end Go.Proofs.Ytbdhlokbpbiijab

/- NQ5:
  stepsOf by contract, telling the list; slices.Collect of the rows. -/
namespace Go.Proofs.Ytbdhlokbpbiijab
open Go.RowKit Go.Shelf
attribute [local go_sem] Oper.semAt_some
set_option linter.unusedVariables false
set_option linter.unusedSimpArgs false

theorem hv15V (x : Nat) : ∀ q, bitN x q * 15 < 2 ^ 4 := fun q => by have := bitN_le x q; show bitN x q * 15 < 16; omega

set_option maxHeartbeats 1000000 in
theorem stepsOf_anyV (n x a : Int) (sa : Option Addr) (len cap : Nat) (w : World) :
    Calls Try.prog 128 #[.agg #[.int .i64 n, .int .i64 x], .int .i64 a, .slice sa len cap] w fun e w' => e = .returned (.func (.func 146) #[] #[.pointer (some ⟨w.heap.size, 0, none⟩), .pointer (some ⟨w.heap.size + 1 + 1, 0, none⟩), .pointer (some ⟨w.heap.size + 1, 0, none⟩)]) ∧
      w' = ((w.alloc (.cells #[.int .i64 n, .int .i64 x] 43)).alloc (.cells #[.int .i64 a] 2)).alloc (.cells #[.slice sa len cap] 25) := by
  go_enter Try.func128, Try.ntmps128
  go_wp2
  go_ret
  exact ⟨rfl, rfl⟩

theorem steps_seqV {x R m : Nat} (ok : FOk (m : Int) x R) (m4 : m ≤ 4) (Bf Bg Bn K : Nat) (S : Nat → Prop) (sg : Value) (gs : List Nat) (g16 : ∀ a, a ∈ gs → a < 16) (gl : gs.length ≤ 16) (kS : ∀ k, K ≤ k → S k) (gS : ∀ k, sg.ownBlock = some k → S k)
    (w : World) (p0 : w.cell? ⟨Bf, 0, none⟩ = some (.int .i64 (m : Int))) (p1 : w.cell? ⟨Bf, 1, none⟩ = some (.int .i64 (x : Int))) (cg : w.cell? ⟨Bg, 0, none⟩ = some sg) (cn : w.cell? ⟨Bn, 0, none⟩ = some (.int .i64 2)) (hg : Owns w 0 sg (nI gs)) (n : Nat) :
    SeqXV Fence.wide n Try.prog 146 #[.pointer (some ⟨Bf, 0, none⟩), .pointer (some ⟨Bg, 0, none⟩), .pointer (some ⟨Bn, 0, none⟩)] encSV (fun xs => ∃ sp, xs = outsV sp (hv15V x) gs [] m) (fun q => ∃ sp, q <+: outsV sp (hv15V x) gs [] m) (gs.length ^ m) K S (Vis m) w := by
  intro l J Jx W hW hK hJ hJx hY hj
  refine (callsIn_wide.2 (steps1_anyV ok m4 l Bf Bg Bn K S sg gs g16 gl (Nat.le_refl _) J Jx hJ kS gS (fun pre x W h1 h2 h3 => YieldAt.anyDV 1 (hY pre x W h1 h2 h3)) W (kc hW p0) (kc hW p1) (kc hW cg) (kc hW cn) (hg.below hW) hK hj)).mono ?_
  rintro e W' ⟨hv, ⟨sp, h⟩ | ⟨sp, q, hqp, h⟩⟩
  · exact ⟨hv, .inl ⟨_, ⟨sp, rfl⟩, h⟩⟩
  · exact ⟨hv, .inr ⟨q, ⟨sp, hqp⟩, h⟩⟩
theorem vis_kept (m K : Nat) (x : OutV) (W W' : World) (row : Option Nat) (h : Vis m K x W) (hg : W.grownBy W' row) (hr : ∀ r, row = some r → r < K) : Vis m K x W' := by
  refine ⟨World.ownsRow.kept h.1 hg ?_, h.2⟩
  cases e : x.1.ownBlock with
  | none => exact .inl rfl
  | some k => exact .inr (fun e' => by have := hr k e'.symm; have := (World.ownsRow.lt h.1 k e).1; omega)

/-- .. those handed out so far. -/
def rowsF {R : Nat} (pre : List (Row R)) : List Int := nI (pre.map (·.1))
theorem rowsF_snoc {R : Nat} (pre : List (Row R)) (y : Row R) : rowsF (pre ++ [y]) = rowsF pre ++ [(y.1 : Int)] := by simp [rowsF, nI]
theorem rowsF_len {R : Nat} (pre : List (Row R)) : (rowsF pre).length = pre.length := by simp [rowsF, nI_length]
theorem rowsF_upto {R : Nat} (hR : 0 < R) : rowsF (upto hR R) = nI (List.range R) := by
  unfold rowsF upto
  congr 1
  rw [List.map_map]
  refine (List.map_congr_left (g := id) fun k hk => ?_).trans (List.map_id _)
  exact rowAt_val hR (by simpa using hk)

set_option maxRecDepth 100000 in
set_option maxHeartbeats 4000000 in
theorem appendSeq_rows {n : Int} {R : Nat} (h0 : 0 ≤ n) (h4 : n ≤ 4) (r0 : 0 < R) (r16 : R ≤ 16) (hR : Hid (rowsN n = (R : Int))) (Bm : Nat) (w : World) (cM : w.cell? ⟨Bm, 0, none⟩ = some (.int .i64 n)) :
    Calls Try.prog 150 #[.slice none 0 0, .func (.func 144) #[] #[.pointer (some ⟨Bm, 0, none⟩)]] w (ListPost w.heap.size (nI (List.range R)) w) := by
  obtain ⟨i0, hi, hz0, hz1, hz2⟩ := info_parts infoI
  have lM := cell_lt cM
  refine (callsIn_wide (n := 3)).1 ?_
  refine callsIn_of_wp_marks Try.func150 rfl trivial ?_ rfl
  simp only [Try.ntmps150, List.size_toArray, List.length_cons, List.length_nil, Nat.reduceAdd, Nat.reduceSub, Array.replicate_succ, Array.replicate_zero, List.push_toArray, List.append_toArray, List.nil_append, List.cons_append]
  gi_wp2
  obtain ⟨W0, hW0⟩ : ∃ W0, w.alloc (.cells #[.slice none 0 0] 25) = W0 := ⟨_, rfl⟩
  have hbx : Boxed W0 w.heap.size 25 (.slice none 0 0) := by rw [← hW0]; exact Boxed.new _ _ _
  have cM0 : W0.cell? ⟨Bm, 0, none⟩ = some (.int .i64 n) := by rw [← hW0]; exact kc (bnew _ _) cM
  have hsz : W0.heap.size = w.heap.size + 1 := by rw [← hW0]; simp [go_sem]
  have hB0 : Below w.heap.size w W0 := by rw [← hW0]; exact bnew _ _
  rw [hW0]
  clear hW0
  refine wpIn_rangeFunc_ownF (α := Row R) rfl (by omega) (gf := 144) (lb := #[.pointer (some ⟨Bm, 0, none⟩)]) rfl trivial (enters_of Try.func144 (by kernel_rfl) rfl)
    (rows_stops (3 - 1) (by omega) Bm w.heap.size n R h0 h4 r0 r16 hR W0 (by omega) cM0) belowK_t (belowK_b (by omega)) (Below.refl _ _) (fun _ => rfl)
    (fun pre W => (∃ v, Boxed W w.heap.size 25 v ∧ W.ownsRow w.heap.size 2 1 v (rowsF pre).length (ints (rowsF pre)) ∧ True) ∧ Below w.heap.size w W)
    (fun _ _ _ => False)
    (OwnFrom.and (Own.from (holdsRow_own w.heap.size w.heap.size 25 2 1 (fun pre => (rowsF pre).length) (fun pre => ints (rowsF pre)) (fun _ _ => True)) _) (ownFrom_below (by omega) (by omega)))
    (fun _ _ _ _ _ hs _ _ => hs)
    ⟨⟨_, hbx, World.ownsRow_nil _ _ _ _, trivial⟩, hB0⟩
    (fun y => { tmps := #[.slice none 0 0, .func (.func 144) #[] #[.pointer (some ⟨Bm, 0, none⟩)], .pointer (some ⟨w.heap.size, 0, none⟩), undef, .slice none 0 0, .int .i64 (y.1 : Int),
      .func (.func 144) #[] #[.pointer (some ⟨Bm, 0, none⟩)], .int .i64 (y.1 : Int), undef, undef, undef, undef, undef], defers := [] }) ?assign ?body ?done ?stop
  case assign =>
    intro l y W K hK
    unfold encRow
    gi_wp2
    exact hK
  case body =>
    clear cM cM0 hbx hB0
    rintro l pre y W ⟨⟨v, hv, hrow, _⟩, hB⟩ hlen
    have hr := y.2
    have hle := Nat.le_of_eq (rowsF_len pre)
    have hbw : w.heap.size ≤ W.heap.size := Nat.le_of_lt hv.lt
    have HC := Lib.hid (rowsF_snoc pre y)
    generalize y.1 = r at hr ⊢ HC
    generalize hlk : (rowsF pre).length = k at hle hrow
    have HLK := Lib.hid hlk
    clear hlk
    have HV := Lib.hid hv
    have dv := hv.cell
    have hv5 := hv.frozen
    gi_wp2_with (gi_at_builtin; refine wpListIn_append_own _ rfl _ _ 25 rfl w.heap.size 2 i0 (.int .i64 0) 1 8 Try.underlying25 hi hz0 hz1 hz2 rfl (by decide) _ _ _ rfl (hrow.alloc _) ⟨W.heap.size, 0, none⟩ 1 1 [.int .i64 (r : Int)] rfl rfl (cell_one_new _ _ _) (one_cell_int _) (by unfold maxLen; omega) (by omega) (by simp; omega) ?_; intro v' w1 hown' hgrow _; have HAP := Lib.hid (Boxed.appended HV.out (by decide) hrow hbw (Nat.le_refl _) hown' hgrow); obtain ⟨g5, cap5, rfl⟩ := ownsRow_succ hown'; have e5 := HAP.out.1.cell; have z5 := HAP.out.1.frozen; clear hgrow)
    obtain ⟨a1, a2, a3, a4, a5⟩ := HAP.out
    refine ⟨a4, a5, ⟨_, a2, ?_, trivial⟩, hB.trans a5⟩
    rw [HC.out, ints_snoc, List.length_append, HLK.out]
    exact a3
  case done =>
    rintro D ys W hD rfl ⟨⟨v, hv, hrow, _⟩, hB⟩ hK
    rw [rowsF_upto r0] at hrow
    have dv := hv.cell
    have HR := Lib.hid hrow
    clear hrow hv
    gi_wp2
    refine ⟨by simp, .inl ⟨_, _, rfl, run_takeDeferred hK, ?_⟩⟩
    refine ⟨v, by simp [results, Try.results150, go_sem], v, rfl, ?_, hB.trans (belowK_b (w := w) (Nat.le_refl _) W D _ _ (by omega) hK rfl rfl)⟩
    exact Owns.mono (ownsRow_putObj HR.out _ hK rfl) (Nat.le_refl _)
  case stop =>
    rintro D c pre W _ _ h _
    exact h.elim
set_option maxHeartbeats 1000000 in
theorem collect_rows {n : Int} {R : Nat} (h0 : 0 ≤ n) (h4 : n ≤ 4) (r0 : 0 < R) (r16 : R ≤ 16) (hR : Hid (rowsN n = (R : Int))) (Bm : Nat) (w : World) (cM : w.cell? ⟨Bm, 0, none⟩ = some (.int .i64 n)) :
    Calls Try.prog 129 #[.func (.func 144) #[] #[.pointer (some ⟨Bm, 0, none⟩)]] w (ListPost w.heap.size (nI (List.range R)) w) := by
  have AS := Lib.hid (appendSeq_rows h0 h4 r0 r16 hR Bm w cM)
  go_enter Try.func129, Try.ntmps129
  go_wp2_with (go_at_call 150; refine AS.out.mono ?_; rintro e w2 ⟨s, rfl, o2, hb2⟩)
  go_ret
  exact ⟨s, rfl, o2, hb2⟩
end Go.Proofs.Ytbdhlokbpbiijab

/- NQ6:
  rowLists by contract: all lists of rows, each with the row of the values at the columns. -/
namespace Go.Proofs.Ytbdhlokbpbiijab
open Go.RowKit Go.Shelf
attribute [local go_sem] Oper.semAt_some
set_option linter.unusedVariables false
set_option linter.unusedSimpArgs false

theorem region_wide {P : Program} {id n : Nat} {ops : Array Oper} {Q : Exit → Act → World → Prop} {a : Act} {w : World} (S : World → Prop) (hm : P.follows .mixedOrders = true) (hn : 1 ≤ n) (hL : ¬ LetsOut Q)
    (h : wpAnyH P .any ops Q S ops.size (Array.replicate ops.size false) a w.drew) : (Code.region id ops true).wpIn Fence.wide n P Q a w :=
  wpIn_region_any hm (wpAny_wide hn hL _ _ _ _ (wpAny_of_held _ _ _ _ h))
theorem firm_cell {β : Type} {K b o : Nat} {u : Value} (hb : b < K) : Firm K (fun (_ : β) W => W.cell? ⟨b, o, none⟩ = some u) := fun _ W W' row hs hg hr => by
  have hl := cell_lt hs
  have h := hg.block b hl (fun e => by have := hr b e.symm; omega)
  simp only [World.cell?, h] at hs ⊢
  exact hs

/-- What is handed on: the places below P alone. -/
def cutV (P : Nat) (z : OutV) : OutV := (z.1, z.2.1, ⟨z.2.2.1 &&& (2 ^ P - 1), Nat.lt_of_le_of_lt Nat.and_le_left z.2.2.2⟩)
def keyV (z : OutV) : List Nat × Nat := (z.2.1, z.2.2.1)
/-- All lists of rows, with the rows of the values at the columns. -/
def linesL (x P Q m : Nat) : List (List Nat × Nat) := (allP (List.range Q) m).map fun p => (p, tupV x p P)
theorem linesL_len (x P Q m : Nat) : (linesL x P Q m).length = Q ^ m := by unfold linesL; rw [List.length_map, allP_length, List.length_range]
theorem cutV_outs {P : Nat} (h4 : P ≤ 4) (sp : Value) (x Q m : Nat) : ((outsV sp (hv15V x) (List.range Q) [] m).map (cutV P)).map keyV = linesL x P Q m := by
  unfold outsV linesL
  rw [List.map_map, List.map_map]
  refine List.map_congr_left fun t ht => ?_
  show (t, levF (fun q => bitN x q * 15) t 0 &&& (2 ^ P - 1)) = (t, tupV x t P)
  rw [tupV_lev x t P h4]
theorem cutV_pref {P : Nat} (h4 : P ≤ 4) (sp : Value) (x Q m : Nat) (q : List OutV) (hq : q <+: outsV sp (hv15V x) (List.range Q) [] m) : (q.map (cutV P)).map keyV <+: linesL x P Q m := by
  rw [← cutV_outs h4 sp x Q m]
  exact (hq.map _).map _
theorem and_maskV (a P : Nat) (ha : a < 16) (hP : P ≤ 4) : bits .and .i64 (a : Int) ((2 ^ P - 1 : Nat) : Int) = ((a &&& (2 ^ P - 1) : Nat) : Int) := by
  have h : 2 ^ P ≤ 2 ^ 4 := Nat.pow_le_pow_right (by decide) hP
  have h1 : ∀ a : Nat, a < 16 → ∀ b : Nat, b < 16 → bits .and .i64 (a : Int) (b : Int) = ((a &&& b : Nat) : Int) := by decide +kernel
  exact h1 a ha _ (by omega)

set_option maxHeartbeats 1000000 in
theorem rowLists_any (n x k : Int) (w : World) :
    Calls Try.prog 106 #[.agg #[.int .i64 n, .int .i64 x], .int .i64 k] w fun e w' => e = .returned (.func (.func 127) #[] #[.pointer (some ⟨w.heap.size, 0, none⟩), .pointer (some ⟨w.heap.size + 1, 0, none⟩)]) ∧
      w' = (w.alloc (.cells #[.int .i64 n, .int .i64 x] 43)).alloc (.cells #[.int .i64 k] 2) := by
  go_enter Try.func106, Try.ntmps106
  go_wp2
  go_ret
  exact ⟨rfl, rfl⟩

set_option maxRecDepth 100000 in
set_option maxHeartbeats 8000000 in
theorem rowLists1_in {x R m : Nat} (ok : FOk (m : Int) x R) (m4 : m ≤ 4) {P Q : Nat} (hP0 : 0 ≤ (P : Int)) (hP4 : (P : Int) ≤ 4) (Q0 : 0 < Q) (Q16 : Q ≤ 16) (hQr : Hid (rowsN (P : Int) = (Q : Int))) (hQ : Q = 2 ^ P) (l Bf Bn K : Nat) (J Jx : List OutV → World → Prop) (hJ : Firm K J) (hJx : Firm K Jx)
    (W : World) (p0 : W.cell? ⟨Bf, 0, none⟩ = some (.int .i64 (m : Int))) (p1 : W.cell? ⟨Bf, 1, none⟩ = some (.int .i64 (x : Int))) (r0 : W.cell? ⟨Bn, 0, none⟩ = some (.int .i64 (P : Int))) (hK : K ≤ W.heap.size)
    (hY : ∀ pre z W1, J pre W1 → pre.length < Q ^ m → Vis m K z W1 → YieldAt Fence.wide 1 Try.prog l (encSV z) W1 fun e W' => Above (fun k => K ≤ k ∨ k = Bn) W1 W' ∧ ((e = .returned (.bool true) ∧ J (pre ++ [z]) W') ∨ (e = .returned (.bool false) ∧ Jx (pre ++ [z]) W')))
    (hj : J [] W) :
    CallsIn Fence.wide 3 Try.prog 127 #[.func (.yield l) #[] #[], .pointer (some ⟨Bf, 0, none⟩), .pointer (some ⟨Bn, 0, none⟩)] W fun e W' => (∃ v, e = .returned v) ∧ ((∃ ys, ys.map keyV = linesL x P Q m ∧ J ys W') ∨ (∃ pre, pre.map keyV <+: linesL x P Q m ∧ Jx pre W')) := by
  refine callsIn_of_wp_marks Try.func127 rfl trivial ?_ rfl
  simp only [Try.ntmps127, List.size_toArray, List.length_cons, List.length_nil, Nat.reduceAdd, Nat.reduceSub, Array.replicate_succ, Array.replicate_zero, List.push_toArray, List.append_toArray, List.nil_append, List.cons_append]
  have lf : Bf < W.heap.size := cell_lt p0
  have ln : Bn < W.heap.size := cell_lt r0
  have hP44 : P ≤ 4 := by omega
  obtain ⟨M, hM⟩ : ∃ M, M = 2 ^ P - 1 := ⟨_, rfl⟩
  have hl1 : ∀ w, Calls Try.prog 121 #[.int .i64 (P : Int)] w fun e w' => e = .returned (.int .i64 (M : Int)) ∧ w = w' := by
    have h := lastRow_is hP0 hP4 Q0 Q16 hQr
    have e : (Q : Int) - 1 = (M : Int) := by omega
    rw [e] at h
    exact h
  have HL1 := Lib.hid hl1
  have HM := Lib.hid hM
  clear hM hl1 hQ
  obtain ⟨V, hV⟩ : ∃ V, W.alloc (.cells #[.func (.yield l) #[] #[]] 138) = V := ⟨_, rfl⟩
  have hb : Below W.heap.size W V := by rw [← hV]; exact bnew _ _
  have hbY : V.heap[W.heap.size]? = some (.cells #[.func (.yield l) #[] #[]] 138 (0, 0)) := by rw [← hV]; exact heap_alloc_new _ _
  have hjV : J [] V := by rw [← hV]; exact hJ.alloc _ hj
  have sV : W.heap.size + 1 = V.heap.size := by rw [← hV]; simp
  have hmx : Try.prog.follows .mixedOrders = true := by kernel_rfl
  gi_wp2
  have c0 := kc hb p0
  have c1 := kc hb p1
  have d0 := kc hb r0
  have SV := Lib.hid sV
  try rw [hV]
  clear hV p0 p1 r0 hj sV
  refine wpIn_mono (Q := fun e a w' => match e with | Exit.normal => ∃ X Bc sa cap, a = { tmps := #[.func (.yield l) #[] #[], .pointer (some ⟨Bf, 0, none⟩), .pointer (some ⟨Bn, 0, none⟩), .pointer (some ⟨W.heap.size, 0, none⟩), undef, undef, .agg #[.int .i64 m, .int .i64 x], .int .i64 P, .func (.func 144) #[] #[.pointer (some ⟨Bc, 0, none⟩)], .slice sa Q cap, .func (.func 146) #[] #[.pointer (some ⟨X, 0, none⟩), .pointer (some ⟨X + 1 + 1, 0, none⟩), .pointer (some ⟨X + 1, 0, none⟩)], undef, undef, undef, undef, undef, undef, undef, undef, undef, undef], defers := [] } ∧ Below V.heap.size V w' ∧ Owns w' V.heap.size (.slice sa Q cap) (nI (List.range Q)) ∧ (X + 3 = w'.heap.size ∧ V.heap.size ≤ X) ∧ w'.cell? ⟨X, 0, none⟩ = some (.int .i64 m) ∧ w'.cell? ⟨X, 1, none⟩ = some (.int .i64 x) ∧ w'.cell? ⟨X + 1 + 1, 0, none⟩ = some (.slice sa Q cap) ∧ w'.cell? ⟨X + 1, 0, none⟩ = some (.int .i64 2) | _ => False) ?reg ?rest
  case reg =>
    refine region_wide (fun w' => ((w'.cell? ⟨Bf, 0, none⟩ = some (.int .i64 m) ∧ w'.cell? ⟨Bf, 1, none⟩ = some (.int .i64 x)) ∧ w'.cell? ⟨Bn, 0, none⟩ = some (.int .i64 P)) ∧ Below V.heap.size V w') hmx (by omega) (by rintro ⟨_, _, h⟩; exact h) ?_
    have hHeld : (fun w' => ((w'.cell? ⟨Bf, 0, none⟩ = some (.int .i64 m) ∧ w'.cell? ⟨Bf, 1, none⟩ = some (.int .i64 x)) ∧ w'.cell? ⟨Bn, 0, none⟩ = some (.int .i64 P)) ∧ Below V.heap.size V w') (World.drew V) := ⟨⟨⟨c0, c1⟩, d0⟩, (Below.refl _ _).drew⟩
    change wpAnyH _ _ _ _ _ _ _ _ (World.drew _)
    refine wpAnyH_take (i := 0) (v := ?_) rfl (by kernel_rfl) (by kernel_rfl) (by kernel_rfl) (fun _ _ _ h => h) (Or.inl ⟨by rfl, by intro w hSw; (try dsimp only at hSw); go_simp; try (with_reducible rfl)⟩) (by assumption) ?_
    try simp only [Act.put, List.setIfInBounds_toArray, List.set_cons_zero, List.set_cons_succ, List.getElem_toArray, List.getElem_cons_zero, List.getElem_cons_succ]
    refine wpAnyH_take (i := 1) (v := ?_) rfl (by kernel_rfl) (by kernel_rfl) (by kernel_rfl) (fun _ _ _ h => h) (Or.inl ⟨by rfl, by intro w hSw; (try dsimp only at hSw); go_simp; try (with_reducible rfl)⟩) (by assumption) ?_
    try simp only [Act.put, List.setIfInBounds_toArray, List.set_cons_zero, List.set_cons_succ, List.getElem_toArray, List.getElem_cons_zero, List.getElem_cons_succ]
    refine wpAnyH_ready (rs := [2]) (by kernel_rfl) (by simp) ?_
    refine AllReadyH.cons rfl (fun K hK => ?_) AllReadyH.nil
    go_simp
    refine (rowsOf_any _ _).mono ?_
    rintro e w3 ⟨rfl, rfl⟩
    have cB := (show ((World.drew V).alloc (.cells #[.int .i64 (P : Int)] 2)).cell? ⟨V.heap.size, 0, none⟩ = some (.int .i64 (P : Int)) by simp [go_sem])
    have hb3 := bnew (World.drew V) (.cells #[.int .i64 (P : Int)] 2)
    refine hK _ _ (step_held3 hb3 hHeld) (fun hHeld => ?_)
    clear hK K
    try simp only [Act.put, List.setIfInBounds_toArray, List.set_cons_zero, List.set_cons_succ, List.getElem_toArray, List.getElem_cons_zero, List.getElem_cons_succ]
    refine wpAnyH_ready (rs := [3]) (by kernel_rfl) (by simp) ?_
    refine AllReadyH.cons rfl (fun K hK => ?_) AllReadyH.nil
    go_simp
    refine (collect_rows hP0 hP4 Q0 Q16 hQr V.heap.size _ cB).mono ?_
    rintro e w4 ⟨s4, rfl, o4, hb4⟩
    obtain ⟨sa, cap, rfl⟩ := owns_len o4 (show (nI (List.range Q)).length = Q by rw [nI_length, List.length_range])
    have O4 := Lib.hid o4
    clear o4
    dsimp only
    refine hK _ _ (step_held3 hb4 hHeld) (fun hHeld => ?_)
    clear hK K
    try simp only [Act.put, List.setIfInBounds_toArray, List.set_cons_zero, List.set_cons_succ, List.getElem_toArray, List.getElem_cons_zero, List.getElem_cons_succ]
    refine wpAnyH_ready (rs := [4]) (by kernel_rfl) (by simp) ?_
    refine AllReadyH.cons rfl (fun K hK => ?_) AllReadyH.nil
    go_simp
    refine (stepsOf_anyV _ _ _ _ _ _ _).mono ?_
    rintro e w5 ⟨rfl, rfl⟩
    have hb5 := balloc (balloc (bnew w4 (.cells #[.int .i64 (m : Int), .int .i64 (x : Int)] 43)) (.cells #[.int .i64 2] 2)) (.cells #[.slice sa Q cap] 25)
    refine hK _ _ (step_held3 hb5 hHeld) (fun hHeld => ?_)
    clear hK K
    try simp only [Act.put, List.setIfInBounds_toArray, List.set_cons_zero, List.set_cons_succ, List.getElem_toArray, List.getElem_cons_zero, List.getElem_cons_succ]
    refine wpAnyH_done (by kernel_rfl) ?_ _
    exact ⟨w4.heap.size, V.heap.size, sa, cap, rfl, hHeld.2, ((Owns.mono O4.out (by simp)).below (bnew _ _) |>.below (bnew _ _)).below (bnew _ _), ⟨by simp, by have := hb4.size; simp at this; omega⟩, by simp [go_sem], by simp [go_sem], by simp [go_sem], by simp [go_sem]⟩
  case rest =>
    intro e a w5 hPost
    obtain ⟨rfl, X, Bc, sa, cap, rfl, hb5, o5, ⟨x5, x6⟩, e0, e1, e2, e3⟩ : e = .normal ∧ ∃ X Bc sa cap, a = { tmps := #[.func (.yield l) #[] #[], .pointer (some ⟨Bf, 0, none⟩), .pointer (some ⟨Bn, 0, none⟩), .pointer (some ⟨W.heap.size, 0, none⟩), undef, undef, .agg #[.int .i64 m, .int .i64 x], .int .i64 P, .func (.func 144) #[] #[.pointer (some ⟨Bc, 0, none⟩)], .slice sa Q cap, .func (.func 146) #[] #[.pointer (some ⟨X, 0, none⟩), .pointer (some ⟨X + 1 + 1, 0, none⟩), .pointer (some ⟨X + 1, 0, none⟩)], undef, undef, undef, undef, undef, undef, undef, undef, undef, undef], defers := [] } ∧ Below V.heap.size V w5 ∧ Owns w5 V.heap.size (.slice sa Q cap) (nI (List.range Q)) ∧ (X + 3 = w5.heap.size ∧ V.heap.size ≤ X) ∧ w5.cell? ⟨X, 0, none⟩ = some (.int .i64 m) ∧ w5.cell? ⟨X, 1, none⟩ = some (.int .i64 x) ∧ w5.cell? ⟨X + 1 + 1, 0, none⟩ = some (.slice sa Q cap) ∧ w5.cell? ⟨X + 1, 0, none⟩ = some (.int .i64 2) := by
      cases e <;> first | exact ⟨rfl, hPost⟩ | exact hPost.elim
    clear hPost
    have hj5 := Firm.belowV hJ hjV hb5
    have sV := SV.out
    have s5 := hb5.size
    have hbl : ∀ k, (Value.slice sa Q cap).ownBlock = some k → V.heap.size ≤ k ∧ k < w5.heap.size := fun k e => World.ownsRow.lt o5 k e
    have hmem : ∀ a, a ∈ List.range Q → a < 16 := fun a ha => by have := List.mem_range.1 ha; omega
    have d5 := kc hb5 d0
    have SEQ := steps_seqV ok m4 X (X + 1 + 1) (X + 1) (w5.heap.size + 2) (fun k => K ≤ k ∧ k ≠ w5.heap.size + 1) (.slice sa Q cap) (List.range Q) hmem (by rw [List.length_range]; exact Q16) (fun k hk => ⟨by omega, by omega⟩) (fun k e => ⟨by have := hbl k e; omega, by have := hbl k e; omega⟩) w5 e0 e1 e2 e3 (Owns.mono o5 (Nat.zero_le _)) (3 - 1)
    rw [List.length_range] at SEQ
    gi_wp2_with fail
    refine wpIn_rangeFunc_XV (α := OutV) (Vis := Vis m) rfl (by omega) (T := fun k => K ≤ k ∧ k ≠ w5.heap.size + 1) (gf := 146) (lb := #[.pointer (some ⟨X, 0, none⟩), .pointer (some ⟨X + 1 + 1, 0, none⟩), .pointer (some ⟨X + 1, 0, none⟩)]) rfl trivial (enters_of Try.func146 (by kernel_rfl) rfl) (fun h => h.2 rfl)
      SEQ (fun x W W' row h hg hr => vis_kept m _ x W W' row h hg hr)
      (Below.refl _ _) (fun _ => rfl)
      (fun pre W' => J (pre.map (cutV P)) W' ∧ (W'.heap[W.heap.size]? = some (.cells #[.func (.yield l) #[] #[]] 138 (0, 0)) ∧ W'.cell? ⟨Bn, 0, none⟩ = some (.int .i64 (P : Int))))
      (fun c pre W' => c = .ret ∧ Jx (pre.map (cutV P)) W')
      (Firm.and (fun pre => hJ.mono (by omega) (pre.map (cutV P))) (Firm.and (firm_block (by omega) _) (firm_cell (by omega))))
      (fun c pre A B row hs hg hr => ⟨hs.1, hJx.mono (by omega) _ A B row hs.2 hg hr⟩)
      ⟨hj5, (hb5.block _ (by omega)).trans hbY, d5⟩
      (fun z => { tmps := #[.func (.yield l) #[] #[], .pointer (some ⟨Bf, 0, none⟩), .pointer (some ⟨Bn, 0, none⟩), .pointer (some ⟨W.heap.size, 0, none⟩), z.1, .int .i64 (z.2.2.1 : Int), .agg #[.int .i64 m, .int .i64 x], .int .i64 P, .func (.func 144) #[] #[.pointer (some ⟨Bc, 0, none⟩)], .slice sa Q cap, .func (.func 146) #[] #[.pointer (some ⟨X, 0, none⟩), .pointer (some ⟨X + 1 + 1, 0, none⟩), .pointer (some ⟨X + 1, 0, none⟩)], z.1, .int .i64 (z.2.2.1 : Int), undef, undef, undef, undef, undef, undef, undef, undef], defers := [] }) ?assign ?body ?done ?stop
    case assign =>
      intro l' z W' K' hK'
      unfold encSV
      gi_wp2
      exact hK'
    case body =>
      rintro l' pre z W' ⟨hjp, hy1, hn1⟩ hlenp hvis
      have hYP := hY (pre.map (cutV P)) (cutV P z) W'.drew (Firm.drewV hJ hjp) (by rw [List.length_map]; exact hlenp) ⟨show Owns W'.drew K z.1 (nI z.2.1) from ((Owns.mono hvis.1 (by omega)).below (Below.refl _ _).drew), hvis.2⟩
      obtain ⟨fn, tmps, assign, body, hy, hR⟩ := YieldAt.anyDV (3 - 1 - 1 - 1) hYP
      have cy : W'.cell? ⟨W.heap.size, 0, none⟩ = some (.func (.yield l) #[] #[]) := by simp [World.cell?, hy1]
      have hz := z.2.2.2
      have hand : bits .and .i64 (z.2.2.1 : Int) (M : Int) = (((cutV P z).2.2.1 : Nat) : Int) := by rw [HM.out]; exact and_maskV _ _ hz hP44
      unfold encSV at hy
      have HY1 := Lib.hid hy1
      have HN1 := Lib.hid hn1
      have lY : W.heap.size < W'.heap.size := cell_lt cy
      have FIN := Lib.hid (fun (e : Ending) (W3 : World) (h : Above (fun k => K ≤ k ∨ k = Bn) W'.drew W3 ∧ ((e = .returned (.bool true) ∧ J (pre.map (cutV P) ++ [cutV P z]) W3) ∨ (e = .returned (.bool false) ∧ Jx (pre.map (cutV P) ++ [cutV P z]) W3))) =>
        show ∃ b : Bool, e = .returned (.bool b) ∧ (Above (fun k => K ≤ k ∨ k = Bn) W'.drew W3 ∧ (b = true → J ((pre ++ [z]).map (cutV P)) W3) ∧ (b = false → Jx ((pre ++ [z]).map (cutV P)) W3)) by
          rw [List.map_append]
          rcases h with ⟨ha, ⟨rfl, h2⟩ | ⟨rfl, h2⟩⟩
          · exact ⟨true, rfl, ha, (fun _ => h2), (fun e => by cases e)⟩
          · exact ⟨false, rfl, ha, (fun e => by cases e), fun _ => h2⟩)
      clear hy1 hYP
      have hzc : (cutV P z).1 = z.1 := rfl
      rw [hzc] at hy
      clear hzc
      generalize (cutV P z).2.2.1 = cz at hand hy
      gi_wp2
      refine wpIn_region_any hmx (wpAnyIn_round (F := Fence.wide) l' (by kernel_rfl) _ _ _ _ ?_)
      change wpAnyIn _ _ _ _ _ _ _ _ _ (World.drew _)
      refine wpAnyIn_take (i := 1) (v := ?_) rfl rfl (by kernel_rfl) (by kernel_rfl) (by kernel_rfl) (fun _ _ _ h => h) ⟨Or.inl ⟨by rfl, by intro w; go_simp; try (with_reducible rfl)⟩, fun _ => rfl⟩ ?_
      refine wpAnyIn_take (i := 2) (v := ?_) rfl rfl (by kernel_rfl) (by kernel_rfl) (by kernel_rfl) (fun _ _ _ h => h) ⟨Or.inl ⟨by rfl, by intro w; go_simp; try (with_reducible rfl)⟩, fun _ => rfl⟩ ?_
      refine wpAnyIn_ready (rs := [0, 3]) (by kernel_rfl) (by simp) ?_
      refine AllReadyIn.cons rfl (fun K hK => ?_) ?_
      · go_simp
        refine hK _ _ ?_
        clear hK K
        refine wpAnyIn_ready (rs := [3]) (by kernel_rfl) (by simp) ?_
        refine AllReadyIn.cons rfl (fun K hK => ?_) ?_
        · go_simp
          refine hK _ _ ?_
          clear hK K
          refine wpAnyIn_ready (rs := [4]) (by kernel_rfl) (by simp) ?_
          refine AllReadyIn.cons rfl (fun K hK => ?_) ?_
          · go_simp
            refine ⟨trivial, ?_⟩
            refine (callsIn_wide.2 (HL1.out _)).mono ?_
            rintro e w' ⟨rfl, rfl⟩
            dsimp only
            refine hK _ _ ?_
            clear hK K
            refine wpAnyIn_take (i := 5) (v := ?_) rfl rfl (by kernel_rfl) (by kernel_rfl) (by kernel_rfl) (fun _ _ _ h => h) ⟨Or.inl ⟨by rfl, by intro w; go_simp; try (with_reducible rfl)⟩, fun _ => rfl⟩ ?_
            refine wpAnyIn_ready (rs := [6]) (by kernel_rfl) (by simp) ?_
            refine AllReadyIn.cons rfl (fun K hK => ?_) ?_
            · go_simp
              refine hR.mono ?_
              rintro e W3 hE
              obtain ⟨b3, rfl, ha, hjt, hjf⟩ := FIN.out e W3 hE
              dsimp only
              refine hK _ _ ?_
              clear hK K
              refine wpAnyIn_take (i := 7) (v := ?_) rfl rfl (by kernel_rfl) (by kernel_rfl) (by kernel_rfl) (fun _ _ _ h => h) ⟨Or.inl ⟨by rfl, by intro w; go_simp; try (with_reducible rfl)⟩, fun _ => rfl⟩ ?_
              refine wpAnyIn_done (by kernel_rfl) ?_ _
              cases b3
              · gi_wp2
                exact ⟨⟨⟨ha.size, fun k o hk h0 _ => (ha.same k (.inl (by omega)) (Array.getElem?_eq_some_iff.1 h0).1).trans h0⟩, ⟨ha.size, fun k hk h0 => ha.same k (Or.inl hk.1) h0⟩⟩, rfl, hjf (by first | rfl | trivial)⟩
              · gi_wp2
                exact ⟨⟨⟨ha.size, fun k o hk h0 _ => (ha.same k (.inl (by omega)) (Array.getElem?_eq_some_iff.1 h0).1).trans h0⟩, ⟨ha.size, fun k hk h0 => ha.same k (Or.inl hk.1) h0⟩⟩, hjt (by first | rfl | trivial), (ha.same _ (.inl hK) lY).trans HY1.out, cell_above ha (.inr rfl) HN1.out⟩
            exact AllReadyIn.nil
          exact AllReadyIn.nil
        exact AllReadyIn.nil
      refine AllReadyIn.cons rfl (fun K hK => ?_) ?_
      · go_simp
        refine hK _ _ ?_
        clear hK K
        refine wpAnyIn_ready (rs := [0, 4]) (by kernel_rfl) (by simp) ?_
        refine AllReadyIn.cons rfl (fun K hK => ?_) ?_
        · go_simp
          refine hK _ _ ?_
          clear hK K
          refine wpAnyIn_ready (rs := [4]) (by kernel_rfl) (by simp) ?_
          refine AllReadyIn.cons rfl (fun K hK => ?_) ?_
          · go_simp
            refine ⟨trivial, ?_⟩
            refine (callsIn_wide.2 (HL1.out _)).mono ?_
            rintro e w' ⟨rfl, rfl⟩
            dsimp only
            refine hK _ _ ?_
            clear hK K
            refine wpAnyIn_take (i := 5) (v := ?_) rfl rfl (by kernel_rfl) (by kernel_rfl) (by kernel_rfl) (fun _ _ _ h => h) ⟨Or.inl ⟨by rfl, by intro w; go_simp; try (with_reducible rfl)⟩, fun _ => rfl⟩ ?_
            refine wpAnyIn_ready (rs := [6]) (by kernel_rfl) (by simp) ?_
            refine AllReadyIn.cons rfl (fun K hK => ?_) ?_
            · go_simp
              refine hR.mono ?_
              rintro e W3 hE
              obtain ⟨b3, rfl, ha, hjt, hjf⟩ := FIN.out e W3 hE
              dsimp only
              refine hK _ _ ?_
              clear hK K
              refine wpAnyIn_take (i := 7) (v := ?_) rfl rfl (by kernel_rfl) (by kernel_rfl) (by kernel_rfl) (fun _ _ _ h => h) ⟨Or.inl ⟨by rfl, by intro w; go_simp; try (with_reducible rfl)⟩, fun _ => rfl⟩ ?_
              refine wpAnyIn_done (by kernel_rfl) ?_ _
              cases b3
              · gi_wp2
                exact ⟨⟨⟨ha.size, fun k o hk h0 _ => (ha.same k (.inl (by omega)) (Array.getElem?_eq_some_iff.1 h0).1).trans h0⟩, ⟨ha.size, fun k hk h0 => ha.same k (Or.inl hk.1) h0⟩⟩, rfl, hjf (by first | rfl | trivial)⟩
              · gi_wp2
                exact ⟨⟨⟨ha.size, fun k o hk h0 _ => (ha.same k (.inl (by omega)) (Array.getElem?_eq_some_iff.1 h0).1).trans h0⟩, ⟨ha.size, fun k hk h0 => ha.same k (Or.inl hk.1) h0⟩⟩, hjt (by first | rfl | trivial), (ha.same _ (.inl hK) lY).trans HY1.out, cell_above ha (.inr rfl) HN1.out⟩
            exact AllReadyIn.nil
          exact AllReadyIn.nil
        refine AllReadyIn.cons rfl (fun K hK => ?_) ?_
        · go_simp
          refine ⟨trivial, ?_⟩
          refine (callsIn_wide.2 (HL1.out _)).mono ?_
          rintro e w' ⟨rfl, rfl⟩
          dsimp only
          refine hK _ _ ?_
          clear hK K
          refine wpAnyIn_take (i := 5) (v := ?_) rfl rfl (by kernel_rfl) (by kernel_rfl) (by kernel_rfl) (fun _ _ _ h => h) ⟨Or.inl ⟨by rfl, by intro w; go_simp; try (with_reducible rfl)⟩, fun _ => rfl⟩ ?_
          refine wpAnyIn_ready (rs := [0]) (by kernel_rfl) (by simp) ?_
          refine AllReadyIn.cons rfl (fun K hK => ?_) ?_
          · go_simp
            refine hK _ _ ?_
            clear hK K
            refine wpAnyIn_ready (rs := [6]) (by kernel_rfl) (by simp) ?_
            refine AllReadyIn.cons rfl (fun K hK => ?_) ?_
            · go_simp
              refine hR.mono ?_
              rintro e W3 hE
              obtain ⟨b3, rfl, ha, hjt, hjf⟩ := FIN.out e W3 hE
              dsimp only
              refine hK _ _ ?_
              clear hK K
              refine wpAnyIn_take (i := 7) (v := ?_) rfl rfl (by kernel_rfl) (by kernel_rfl) (by kernel_rfl) (fun _ _ _ h => h) ⟨Or.inl ⟨by rfl, by intro w; go_simp; try (with_reducible rfl)⟩, fun _ => rfl⟩ ?_
              refine wpAnyIn_done (by kernel_rfl) ?_ _
              cases b3
              · gi_wp2
                exact ⟨⟨⟨ha.size, fun k o hk h0 _ => (ha.same k (.inl (by omega)) (Array.getElem?_eq_some_iff.1 h0).1).trans h0⟩, ⟨ha.size, fun k hk h0 => ha.same k (Or.inl hk.1) h0⟩⟩, rfl, hjf (by first | rfl | trivial)⟩
              · gi_wp2
                exact ⟨⟨⟨ha.size, fun k o hk h0 _ => (ha.same k (.inl (by omega)) (Array.getElem?_eq_some_iff.1 h0).1).trans h0⟩, ⟨ha.size, fun k hk h0 => ha.same k (Or.inl hk.1) h0⟩⟩, hjt (by first | rfl | trivial), (ha.same _ (.inl hK) lY).trans HY1.out, cell_above ha (.inr rfl) HN1.out⟩
            exact AllReadyIn.nil
          exact AllReadyIn.nil
        exact AllReadyIn.nil
      exact AllReadyIn.nil
    case done =>
      rintro D xs W' hD ⟨sp, rfl⟩ ⟨hjx, _⟩ hKd
      gi_wp2
      refine ⟨by simp, .inl ⟨_, _, rfl, run_takeDeferred hKd, ?_⟩⟩
      exact ⟨_, results_none rfl _ _ _, ⟨_, rfl⟩, .inl ⟨_, cutV_outs hP44 sp x Q m, hJ.put D _ hjx (by omega)⟩⟩
    case stop =>
      rintro D c pre W' hD ⟨sp, hsp⟩ ⟨rfl, hq⟩ hKd
      gi_wp2
      refine ⟨by simp, .inl ⟨_, _, rfl, run_takeDeferred hKd, ?_⟩⟩
      exact ⟨_, results_none rfl _ _ _, ⟨_, rfl⟩, .inr ⟨_, cutV_pref hP44 sp x Q m _ hsp, hJx.put D _ hq (by omega)⟩⟩

theorem rowLists_seq {x R m : Nat} (ok : FOk (m : Int) x R) (m4 : m ≤ 4) {P Q : Nat} (hP0 : 0 ≤ (P : Int)) (hP4 : (P : Int) ≤ 4) (Q0 : 0 < Q) (Q16 : Q ≤ 16) (hQr : Hid (rowsN (P : Int) = (Q : Int))) (hQ : Q = 2 ^ P) (Bf Bn K n : Nat)
    (w : World) (p0 : w.cell? ⟨Bf, 0, none⟩ = some (.int .i64 (m : Int))) (p1 : w.cell? ⟨Bf, 1, none⟩ = some (.int .i64 (x : Int))) (r0 : w.cell? ⟨Bn, 0, none⟩ = some (.int .i64 (P : Int))) :
    SeqXV Fence.wide n Try.prog 127 #[.pointer (some ⟨Bf, 0, none⟩), .pointer (some ⟨Bn, 0, none⟩)] encSV (fun ys => ys.map keyV = linesL x P Q m) (fun ys => ys.map keyV <+: linesL x P Q m) (Q ^ m) K (fun k => K ≤ k ∨ k = Bn) (Vis m) w := by
  intro l J Jx W hW hK hJ hJx hY hj
  exact callsIn_wide.2 (callsIn_wide.1 (rowLists1_in ok m4 hP0 hP4 Q0 Q16 hQr hQ l Bf Bn K J Jx hJ hJx W (kc hW p0) (kc hW p1) (kc hW r0) hK (fun pre z W1 h1 h2 h3 => YieldAt.anyDV 1 (hY pre z W1 h1 h2 h3)) hj))
end Go.Proofs.Ytbdhlokbpbiijab

/- CM2:
  areCommuting of the program. -/
namespace Go.Proofs.Ytbdhlokbpbiijab
open Go.RowKit Go.Shelf
attribute [local go_sem] Oper.semAt_some
set_option linter.unusedVariables false
set_option linter.unusedSimpArgs false

/-- A list of rows, with the row of the columns' values, does not show that f and g do not commute. -/
def agL (x y : Nat) (l : List Nat × Nat) : Bool := bitN x (rowS y l.1) == bitN y l.2
def comB (x y m P Q : Nat) : Bool := (linesL x P Q m).all (agL x y)

theorem above_keepsV {K : Nat} {W W' : World} (h : Below W.heap.size W W') (S : Nat → Prop) : KeepsFrom K W W' ∧ Above S W W' :=
  ⟨⟨h.size, fun k o _ hk _ => (h.block k (Array.getElem?_eq_some_iff.1 hk).1).trans hk⟩, Above.below h⟩

set_option maxRecDepth 100000 in
set_option maxHeartbeats 8000000 in
theorem areCommuting_any {x R m : Nat} (ok : FOk (m : Int) x R) (m4 : m ≤ 4) {y Q P : Nat} (okg : FOk (P : Int) y Q) (w : World) :
    Calls Try.prog 76 #[.agg #[.int .i64 m, .int .i64 x], .agg #[.int .i64 P, .int .i64 y]] w fun e w' => e = .returned (.bool (comB x y m P Q)) ∧ Below w.heap.size w w' := by
  have hQ : Q = 2 ^ P := by have := okg.he; simpa using this
  have hq16 := okg.r16
  have hLL := linesL_len x P Q m
  have HKN := Lib.hid (show comB x y m P Q = (linesL x P Q m).all (agL x y) from rfl)
  obtain ⟨W0, hW0⟩ : ∃ W0, ((((w.alloc (.cells #[.int .i64 m, .int .i64 x] 43)).alloc (.cells #[.int .i64 P, .int .i64 y] 43)).alloc (.cells #[.bool false] 4)).alloc (.cells #[.int .i64 m, .int .i64 x] 43)).alloc (.cells #[.int .i64 P] 2) = W0 := ⟨_, rfl⟩
  refine (callsIn_wide (n := 3)).1 ?_
  refine callsIn_of_wp_marks Try.func76 rfl trivial ?_ rfl
  simp only [Try.ntmps76, List.size_toArray, List.length_cons, List.length_nil, Nat.reduceAdd, Nat.reduceSub, Array.replicate_succ, Array.replicate_zero, List.push_toArray, List.append_toArray, List.nil_append, List.cons_append]
  gi_wp2_with (refine ⟨trivial, ?_⟩; gi_at_call 106; refine (callsIn_wide.2 (rowLists_any _ _ _ _)).mono ?_; rintro e w' ⟨rfl, rfl⟩)
  have sz : W0.heap.size = w.heap.size + 5 := by rw [← hW0]; simp
  have hB0 : Below w.heap.size w W0 := by rw [← hW0]; exact balloc (balloc (balloc (balloc (bnew _ _) _) _) _) _
  have f0 : W0.cell? ⟨w.heap.size + 1 + 1 + 1, 0, none⟩ = some (.int .i64 (m : Int)) := by rw [← hW0]; simp [go_sem]
  have f1 : W0.cell? ⟨w.heap.size + 1 + 1 + 1, 1, none⟩ = some (.int .i64 (x : Int)) := by rw [← hW0]; simp [go_sem]
  have r0 : W0.cell? ⟨w.heap.size + 1 + 1 + 1 + 1, 0, none⟩ = some (.int .i64 (P : Int)) := by rw [← hW0]; simp [go_sem]
  have a0 : W0.cell? ⟨w.heap.size, 0, none⟩ = some (.int .i64 (m : Int)) := by rw [← hW0]; simp [go_sem]
  have a1 : W0.cell? ⟨w.heap.size, 1, none⟩ = some (.int .i64 (x : Int)) := by rw [← hW0]; simp [go_sem]
  have b0 : W0.cell? ⟨w.heap.size + 1, 0, none⟩ = some (.int .i64 (P : Int)) := by rw [← hW0]; simp [go_sem]
  have b1 : W0.cell? ⟨w.heap.size + 1, 1, none⟩ = some (.int .i64 (y : Int)) := by rw [← hW0]; simp [go_sem]
  have hbg0 : W0.heap[w.heap.size + 1 + 1]? = some (.cells #[.bool false] 4 (0, 0)) := by
    rw [← hW0]
    have e := heap_alloc_new ((w.alloc (.cells #[.int .i64 m, .int .i64 x] 43)).alloc (.cells #[.int .i64 P, .int .i64 y] 43)) (.cells #[.bool false] 4)
    rw [World.size_alloc, World.size_alloc] at e
    exact (Below.heap_alloc _ _ _ (by simp <;> omega)).trans ((Below.heap_alloc _ _ _ (by simp)).trans e)
  try rw [hW0]
  have hbg : Boxed W0 (w.heap.size + 1 + 1) 4 (.bool false) := hbg0
  clear hW0 hbg0
  refine wpIn_rangeFunc_XV (α := OutV) (Vis := Vis m) rfl (by omega) (T := fun k => W0.heap.size + 2 ≤ k ∨ k = w.heap.size + 1 + 1 + 1 + 1) (gf := 127) (lb := #[.pointer (some ⟨w.heap.size + 1 + 1 + 1, 0, none⟩), .pointer (some ⟨w.heap.size + 1 + 1 + 1 + 1, 0, none⟩)]) rfl trivial (enters_of Try.func127 (by kernel_rfl) rfl) (by omega)
    (rowLists_seq ok m4 okg.h0 okg.h4 okg.r0 okg.r16 okg.hR hQ (w.heap.size + 1 + 1 + 1) (w.heap.size + 1 + 1 + 1 + 1) (W0.heap.size + 2) (3 - 1) W0 f0 f1 r0)
    (fun x W W' row h hg hr => vis_kept m _ x W W' row h hg hr)
    (Below.refl _ _) (fun _ => rfl)
    (fun pre W => (∀ t, t ∈ pre.map keyV → agL x y t = true) ∧ (((W.cell? ⟨w.heap.size, 0, none⟩ = some (.int .i64 m) ∧ W.cell? ⟨w.heap.size, 1, none⟩ = some (.int .i64 x)) ∧ (W.cell? ⟨w.heap.size + 1, 0, none⟩ = some (.int .i64 P) ∧ W.cell? ⟨w.heap.size + 1, 1, none⟩ = some (.int .i64 y))) ∧ (W.heap[w.heap.size + 1 + 1]? = some (.cells #[.bool false] 4 (0, 0)) ∧ Below w.heap.size w W)))
    (fun c pre W => (c = .ret ∧ ∃ t, t ∈ pre.map keyV ∧ agL x y t = false) ∧ (W.heap[w.heap.size + 1 + 1]? = some (.cells #[.bool false] 4 (0, 0)) ∧ Below w.heap.size w W))
    (Firm.and (firm_pure _ (fun (pre : List OutV) => ∀ t, t ∈ pre.map keyV → agL x y t = true)) (Firm.and (Firm.and (Firm.and (firm_cell (by omega)) (firm_cell (by omega))) (Firm.and (firm_cell (by omega)) (firm_cell (by omega)))) (Firm.and (firm_block (by omega) _) (firm_below (by omega) (Nat.le_refl _)))))
    (fun c => Firm.and (firm_pure _ (fun (pre : List OutV) => c = .ret ∧ ∃ t, t ∈ pre.map keyV ∧ agL x y t = false)) (Firm.and (firm_block (by omega) _) (firm_below (by omega) (Nat.le_refl _))))
    ⟨fun t ht => (by simp at ht), ⟨⟨a0, a1⟩, ⟨b0, b1⟩⟩, hbg, hB0⟩
    (fun z => { tmps := #[.agg #[.int .i64 m, .int .i64 x], .agg #[.int .i64 P, .int .i64 y], .pointer (some ⟨w.heap.size, 0, none⟩), .pointer (some ⟨w.heap.size + 1, 0, none⟩), .pointer (some ⟨w.heap.size + 1 + 1, 0, none⟩), z.1, .int .i64 (z.2.2.1 : Int), .agg #[.int .i64 m, .int .i64 x], .pointer (some ⟨w.heap.size + 1, 0, none⟩), .int .i64 P, .func (.func 127) #[] #[.pointer (some ⟨w.heap.size + 1 + 1 + 1, 0, none⟩), .pointer (some ⟨w.heap.size + 1 + 1 + 1 + 1, 0, none⟩)], z.1, .int .i64 (z.2.2.1 : Int), undef, undef, undef, undef, undef, undef], defers := [] }) ?assign ?body ?done ?stop
  case assign =>
    intro l z W K hK
    unfold encSV
    gi_wp2
    exact hK
  case body =>
    clear hbg hB0 f0 f1 r0 a0 a1 b0 b1
    rintro l pre z W ⟨hall, ⟨⟨a0, a1⟩, ⟨b0, b1⟩⟩, hg, hB⟩ hlen ⟨hown, hzl, hzb⟩
    have AG0 := fun W2 (hW2 : Below W.heap.size W W2) => agreeAt_any ok m4 (n := (P : Int)) (y := y) okg.hx (base := W0.heap.size + 2) (s := z.1) (p := z.2.1) hzl (fun a ha => Nat.lt_trans (hzb a ha) (by decide)) z.2.2.1 (Nat.lt_trans z.2.2.2 (by decide)) W2 (hown.below hW2)
    have HG := Lib.hid hg
    have HA := Lib.hid (And.intro (And.intro a0 a1) (And.intro b0 b1))
    obtain ⟨ag, hag⟩ : ∃ ag, ag = (bitN x (rowS y z.2.1) == bitN y z.2.2.1) := ⟨_, rfl⟩
    rw [← hag] at AG0
    have AG := Lib.hid AG0
    have hsz := hB.size
    clear AG0 hown hzl hzb hg
    cases ag
    · have HEX : Hid (∃ t, t ∈ (pre ++ [z]).map keyV ∧ agL x y t = false) := Lib.hid ⟨keyV z, by simp, hag.symm⟩
      clear hall hag
      have lg := (Array.getElem?_eq_some_iff.1 HG.out).1
      gi_wp2_with (refine ⟨trivial, ?_⟩; gi_at_call 107; refine (callsIn_wide.2 (AG.out _ (Below.refl _ _))).mono ?_; rintro e w2 ⟨rfl, hb2⟩; have hg2 := Lib.hid ((hb2.block _ lg).trans HG.out); have g0 := Boxed.cell (show Boxed w2 (w.heap.size + 1 + 1) 4 (.bool false) from hg2.out); have g1 := Boxed.frozen (show Boxed w2 (w.heap.size + 1 + 1) 4 (.bool false) from hg2.out))
      obtain ⟨k1, k2⟩ := above_keepsV (K := W0.heap.size) hb2 (fun k => W0.heap.size + 2 ≤ k ∨ k = w.heap.size + 1 + 1 + 1 + 1)
      exact ⟨⟨k1.trans ((KeepsOthers.setCell _ _ _).from _), k2.trans (Above.grown (grownSet _ _ _ _) (fun r e => by cases e; omega))⟩, ⟨rfl, HEX.out⟩, Boxed.set (.bool false) hg2.out, (bthen hB hb2).setCell (p := ⟨w.heap.size + 1 + 1, 0, none⟩) (by show w.heap.size ≤ w.heap.size + 1 + 1; omega) _⟩
    · have HALL : Hid (∀ t, t ∈ (pre ++ [z]).map keyV → agL x y t = true) := Lib.hid fun t h => by
        rw [List.map_append, List.mem_append] at h
        rcases h with h | h
        · exact hall t h
        · simp at h; rw [h]; exact hag.symm
      clear hall hag
      have lg := (Array.getElem?_eq_some_iff.1 HG.out).1
      gi_wp2_with (refine ⟨trivial, ?_⟩; gi_at_call 107; refine (callsIn_wide.2 (AG.out _ (Below.refl _ _))).mono ?_; rintro e w2 ⟨rfl, hb2⟩)
      exact ⟨above_keepsV hb2 _, HALL.out, ⟨⟨kc hb2 HA.out.1.1, kc hb2 HA.out.1.2⟩, ⟨kc hb2 HA.out.2.1, kc hb2 HA.out.2.2⟩⟩, (hb2.block _ lg).trans HG.out, bthen hB hb2⟩
  case done =>
    clear hbg hB0 f0 f1 r0 a0 a1 b0 b1
    rintro D ys W hD hys ⟨hall, _, hg, hB⟩ hKd
    have g0 : W.cell? ⟨w.heap.size + 1 + 1, 0, none⟩ = some (.bool false) := Boxed.cell hg
    have g1 : W.frozen? ⟨w.heap.size + 1 + 1, 0, none⟩ = false := Boxed.frozen hg
    have hk : comB x y m P Q = true := by
      rw [HKN.out, ← hys, List.all_eq_true]
      exact hall
    have HKK := Lib.hid hk
    clear hk
    have h1 := Boxed.cell (Boxed.set (.bool true) hg)
    have hKd' := (KeepsOthers.setCell W ⟨w.heap.size + 1 + 1, 0, none⟩ (.bool true)).same D _ hKd rfl
    have h2 := cell_kept h1 (grownBy_putObj' _ D (.deferred none)) (fun r e => by cases e; exact ⟨_, hKd', rfl⟩)
    have HG := Lib.hid hg
    clear hg h1
    gi_wp2
    refine ⟨by simp, .inl ⟨_, _, rfl, run_takeDeferred hKd', ?_⟩⟩
    refine ⟨.bool true, by simp [results, Try.results76, go_sem, h2], by rw [HKK.out], ?_⟩
    exact (hB.setCell (p := ⟨w.heap.size + 1 + 1, 0, none⟩) (by show w.heap.size ≤ w.heap.size + 1 + 1; omega) _).trans (belowK_b (w := w) (Nat.le_refl _) _ D _ _ (by omega) hKd' rfl rfl)
  case stop =>
    clear hbg hB0 f0 f1 r0 a0 a1 b0 b1
    rintro D c pre W hD hpre ⟨⟨rfl, t, ht, hb⟩, hg, hB⟩ hKd
    have hk : comB x y m P Q = false := by
      rw [HKN.out]
      cases hc : (linesL x P Q m).all (agL x y)
      · rfl
      · have := List.all_eq_true.1 hc t (hpre.subset ht)
        rw [hb] at this
        cases this
    have HKK := Lib.hid hk
    clear hk
    have h1 := Boxed.cell hg
    have h2 := cell_kept h1 (grownBy_putObj' _ D (.deferred none)) (fun r e => by cases e; exact ⟨_, hKd, rfl⟩)
    gi_wp2
    refine ⟨by simp, .inl ⟨_, _, rfl, run_takeDeferred hKd, ?_⟩⟩
    refine ⟨.bool false, by simp [results, Try.results76, go_sem, h2], by rw [HKK.out], ?_⟩
    exact hB.trans (belowK_b (w := w) (Nat.le_refl _) _ D _ _ (by omega) hKd rfl rfl)
end Go.Proofs.Ytbdhlokbpbiijab

/- N1:
  Lists of functions: are they functions (both packages). -/
namespace Go.Proofs.Ytbdhlokbpbiijab
open Go.RowKit

/-- The functions below j of a list are functions. -/
def allTo (xs : List (Int × Int)) (j : Nat) : Bool := allLt j fun i => isF (fget xs i).1 (fget xs i).2
theorem allTo_succ (xs : List (Int × Int)) (j : Nat) : allTo xs (j + 1) = (allTo xs j && isF (fget xs j).1 (fget xs j).2) := allLt_succ _ _
theorem allTo_false {xs : List (Int × Int)} {k m : Nat} (hk : k < m) (h : isF (fget xs k).1 (fget xs k).2 = false) : allTo xs m = false := by
  cases hc : allTo xs m
  · rfl
  · have := allLt_iff.1 hc k hk
    rw [h] at this
    cases this
theorem allTo_get {xs : List (Int × Int)} {m : Nat} (h : allTo xs m = true) (k : Nat) (hk : k < m) : isF (fget xs k).1 (fget xs k).2 = true := allLt_iff.1 h k hk

/-- A list's shape, whatever its length. -/
theorem OwnsF.cells {W : World} {base : Nat} {s : Value} {xs : List (Int × Int)} (h : OwnsF W base s xs) :
    ∃ a cap, s = .slice a xs.length cap ∧ (xs.length = 0 ∨ ∃ g, a = some ⟨g, 0, none⟩ ∧ g < W.heap.size ∧ Hid (∀ j, j < xs.length → W.cell? ⟨g, j * 2, none⟩ = some (.int .i64 (fget xs j).1) ∧ W.cell? ⟨g, j * 2 + 1, none⟩ = some (.int .i64 (fget xs j).2))) := by
  rcases h.shape with ⟨rfl, a, cap, rfl⟩ | ⟨hn, g, cap, rfl, hbg, hg, hc, hf⟩
  · exact ⟨a, cap, rfl, .inl rfl⟩
  · exact ⟨_, cap, rfl, .inr ⟨g, rfl, hg, hc⟩⟩

set_option maxRecDepth 100000 in
set_option maxHeartbeats 2000000 in
theorem areFuncs_any {base : Nat} {s : Value} {xs : List (Int × Int)} (hl : xs.length ≤ 1048576) (w : World) (h : OwnsF w base s xs) {b : Bool} (hb : allTo xs xs.length = b) :
    Calls Try.prog 108 #[s] w fun e w' => e = .returned (.bool b) ∧ Below w.heap.size w w' := by
  obtain ⟨a, cap, rfl, hrow⟩ := h.cells
  have HROW := Lib.hid hrow
  have HBB := Lib.hid hb
  clear h hrow hb
  generalize hL : xs.length = L at hl HROW HBB ⊢
  clear hL
  go_enter Try.func108, Try.ntmps108
  go_wp2
  go_loopw [7] (fun i' wr => ∃ i : Nat, i ≤ L ∧ i' = .int .i64 i ∧ Hid (allTo xs i = true) ∧ Below w.heap.size w wr) (fun i' _ => L - (intOf i').toNat)
  case atStart => exact ⟨0, Nat.zero_le _, rfl, Lib.hid rfl, Below.refl _ _⟩
  case round =>
    obtain ⟨i, hi, rfl, hm, hB⟩ := hrel
    by_cases hlt : i < L
    · obtain ⟨g, rfl, hg, hc⟩ : ∃ g, a = some ⟨g, 0, none⟩ ∧ g < w.heap.size ∧ Hid (∀ j, j < L → w.cell? ⟨g, j * 2, none⟩ = some (.int .i64 (fget xs j).1) ∧ w.cell? ⟨g, j * 2 + 1, none⟩ = some (.int .i64 (fget xs j).2)) := by
        rcases HROW.out with h0 | h1
        · omega
        · exact h1
      obtain ⟨c0, c1⟩ := hc.out i hlt
      have d0 := (hB.cell (p := ⟨g, i * 2, none⟩) hg).trans c0
      have d1 := (hB.cell (p := ⟨g, i * 2 + 1, none⟩) hg).trans c1
      clear c0 c1
      cases hf : isF (fget xs i).1 (fget xs i).2
      · obtain rfl : b = false := HBB.out.symm.trans (allTo_false hlt hf)
        go_wp2_with (go_at_call 63; refine (IsFunc_is hf _).mono ?_; rintro e w2 ⟨rfl, hb2⟩)
        go_ret
        exact ⟨rfl, bthen hB (bthen (bnew _ _) hb2)⟩
      · have HM := Lib.hid (show allTo xs (i + 1) = true by rw [allTo_succ, hm.out, hf]; rfl)
        go_wp2_with (go_at_call 63; refine (IsFunc_is hf _).mono ?_; rintro e w2 ⟨rfl, hb2⟩)
        go_roundw
        case rel => exact ⟨i + 1, by omega, by go_num, HM, bthen hB (bthen (bnew _ _) hb2)⟩
        case measure => simp [intOf]; omega
    · obtain rfl : i = L := by omega
      obtain rfl : b = true := HBB.out.symm.trans hm.out
      go_wp2
      go_ret
      exact ⟨rfl, hB⟩

/-- The code of a list. -/
def codeA (b : Bool) : Int := if b then 0 else 1

end Go.Proofs.Ytbdhlokbpbiijab

/- Q1:
  A map whose keys are functions: what a key reads as; the map of the sets of classes. -/
namespace Go.Proofs.Ytbdhlokbpbiijab
open Go.RowKit
open Go.Maps (Keyed)

theorem lawF : Keyed Try.prog 43 :=
  Keyed.of_law (deep_law_gate (by kernel_rfl) (of_decide_eq_true (by kernel_rfl)) (of_decide_eq_true (by kernel_rfl)) (by kernel_rfl) (by kernel_rfl))
theorem zeroI (w : World) : (zeroValue 2).run Try.prog w = .ok (.int .i64 0) w := by kernel_rfl

/-- What a function reads as, as a key. -/
def kl (p : Int × Int) : Lit := .string (keyBytes [.int .i64 p.1, .int .i64 p.2])
theorem kl_isKey (p : Int × Int) : WideAt.IsKeyLit (kl p) := trivial

theorem keyF {p : Int × Int} (h1 : (Lit.int .i64 p.1).wf = true) (h2 : (Lit.int .i64 p.2).wf = true) : keyOf Try.prog 43 (.agg #[.int .i64 p.1, .int .i64 p.2]) = some (kl p) := by
  have k1 : Try.prog.keyType 43 = true := by kernel_rfl
  have c1 : Try.prog.cellsOf 43 = 2 := by kernel_rfl
  have c2 : Try.prog.cellsOf 2 = 1 := by kernel_rfl
  have hd : decide (Try.prog.types.size ≠ 0) = true := by kernel_rfl
  obtain ⟨m, hm⟩ : ∃ m, Try.prog.types.size = m + 1 := Nat.exists_eq_succ_of_ne_zero (of_decide_eq_true hd)
  have f1 : (Value.agg #[.int .i64 p.1, .int .i64 p.2]).formed Try.prog 43 = true := by
    simp [Value.formed, Try.underlying43, c1]
  have e1 : Try.prog.keyLits (Try.prog.types.size + 1) 43 [.int .i64 p.1, .int .i64 p.2] = some [.int .i64 p.1, .int .i64 p.2] := by
    rw [hm]
    simp [Program.keyLits, Try.underlying43, Try.underlying2, c1, c2, h1, h2]
  unfold keyOf
  rw [Try.underlying43]
  simp only [k1, f1, Bool.and_self, if_true]
  rw [show (Value.agg #[.int .i64 p.1, .int .i64 p.2]).cells.toList = [.int .i64 p.1, .int .i64 p.2] from rfl, e1]
  rfl
end Go.Proofs.Ytbdhlokbpbiijab

/- Q2:
  classSetsOf: the map of the sets of classes of a list. -/
namespace Go.Proofs.Ytbdhlokbpbiijab
open Go.RowKit
open Go.Maps (Keyed)

abbrev DU := DataW Unit
/-- The set of classes of a function that is told as two integers. -/
def setP (p : Int × Int) : Nat := setN p.1.toNat p.2.toNat (2 ^ p.1.toNat)
theorem setP_lt (p : Int × Int) : setP p < 32 := sumN_lt _ 5 (fun r _ => clsV_le _ _ _ r)
def isP (p : Int × Int) : Prop := isF p.1 p.2 = true
theorem isP.wf {p : Int × Int} (h : isP p) : (Lit.int .i64 p.1).wf = true ∧ (Lit.int .i64 p.2).wf = true := by
  obtain ⟨h0, h4, hb, ha⟩ := isF_iff.1 h
  have := allN_bd h0 h4
  exact ⟨WalkArith.wf_i64 (by omega), WalkArith.wf_i64 (by omega)⟩
theorem isP.key {p : Int × Int} (h : isP p) : keyOf Try.prog 43 (.agg #[.int .i64 p.1, .int .i64 p.2]) = some (kl p) := keyF h.wf.1 h.wf.2
theorem kl_ne {p q : Int × Int} (hp : isP p) (hq : isP q) (h : p ≠ q) : kl p ≠ kl q := by
  intro e
  have h1 := hp.key
  have h2 := hq.key
  rw [← e] at h2
  have := lawF.inj h1 h2
  simp at this
  exact h (Prod.ext this.1 this.2)
/-- The map has the functions below j of the list, and with each function that it has its set of classes. -/
def MapOk (D : DU) (xs : List (Int × Int)) (j : Nat) : Prop :=
  Maps.IsMap D ∧ (∀ i, i < j → Maps.has D (kl (fget xs i)) = true) ∧ ∀ p, isP p → Maps.has D (kl p) = true → ∀ z, D.atKey (kl p) z = .lit (.int .i64 (setP p : Int))
theorem MapOk.zero (xs : List (Int × Int)) : MapOk (.map []) xs 0 := ⟨Maps.isMap_empty, fun i h => by omega, fun p _ h => by simp [Maps.has] at h⟩
theorem MapOk.same {D : DU} {xs : List (Int × Int)} {j : Nat} (h : MapOk D xs j) (hh : Maps.has D (kl (fget xs j)) = true) : MapOk D xs (j + 1) :=
  ⟨h.1, fun i hi => by
    by_cases e : i = j
    · subst e; exact hh
    · exact h.2.1 i (by omega), h.2.2⟩
theorem MapOk.put {D : DU} {xs : List (Int × Int)} {j : Nat} (h : MapOk D xs j) (hx : ∀ i, i < j + 1 → isP (fget xs i)) : MapOk (D.put (kl (fget xs j)) (.lit (.int .i64 (setP (fget xs j) : Int)))) xs (j + 1) := by
  obtain ⟨h1, h2, h3⟩ := h
  have hsame := Maps.has_put_same h1 (kl_isKey (fget xs j)) (.lit (.int .i64 (setP (fget xs j) : Int)))
  refine ⟨h1.put _ _, fun i hi => ?_, fun p hp hh z => ?_⟩
  · by_cases e : fget xs i = fget xs j
    · rw [e]; exact hsame
    · have hij : i ≠ j := fun e2 => e (by rw [e2])
      rw [Maps.has_put_other (kl_ne (hx i hi) (hx j (by omega)) e)]
      exact h2 i (by omega)
  · by_cases e : p = fget xs j
    · rw [e]; exact Maps.atKey_put_same h1 (kl_isKey _) _ _
    · have hne := kl_ne hp (hx j (by omega)) e
      rw [Maps.has_put_other hne] at hh
      rw [Maps.atKey_put_other hne]
      exact h3 p hp hh z
theorem owns_map_below {w w' : World} {b n : Nat} {D : DU} (h : w.ownsMap Try.prog 43 (plainElem Try.prog 2) b n D) (hb : Below w.heap.size w w') : w'.ownsMap Try.prog 43 (plainElem Try.prog 2) b n D := by
  obtain ⟨es, clock, hh, F, hs, hD⟩ := h
  exact ⟨es, clock, (hb.block b (Array.getElem?_eq_some_iff.1 hh).1).trans hh, F, hs, hD⟩

/-- A post with 'there is a map'. -/
def MapPost (xs : List (Int × Int)) (w : World) (e : Ending) (w' : World) : Prop := ∃ (b : Nat) (D : DU), e = .returned (.map (some b)) ∧ w'.ownsMap Try.prog 43 (plainElem Try.prog 2) b xs.length D ∧ MapOk D xs xs.length ∧ Below w.heap.size w w'

end Go.Proofs.Ytbdhlokbpbiijab

/- Q3:
  commonClasses; the codes of lists; the whole of a list. -/
namespace Go.Proofs.Ytbdhlokbpbiijab
open Go.RowKit

theorem bits_and_nat (x y : Nat) (hx : x < 2 ^ 62) (hy : y < 2 ^ 62) : bits .and .i64 (x : Int) (y : Int) = ((x &&& y : Nat) : Int) := by
  have h : x &&& y ≤ x := Nat.and_le_left
  have h64 : (2 : Nat) ^ 62 < 2 ^ 64 := by decide
  show IntKind.i64.wrap ((BitVec.ofInt 64 (x : Int) &&& BitVec.ofInt 64 (y : Int)).toNat : Int) = _
  rw [BitVec.ofInt_natCast, BitVec.ofInt_natCast, BitVec.toNat_and, BitVec.toNat_ofNat, BitVec.toNat_ofNat, Nat.mod_eq_of_lt (Nat.lt_trans hx h64), Nat.mod_eq_of_lt (Nat.lt_trans hy h64)]
  exact wrap64_small (by omega) (by omega)
theorem bitN_of_test (x i : Nat) : bitN x i = (x.testBit i).toNat := by
  have := bitN_le x i
  rw [bitN_test]
  cases h : bitN x i == 1
  · simp at h ⊢; omega
  · simp at h ⊢; omega
theorem bitN_and (x y i : Nat) : bitN (x &&& y) i = bitN x i * bitN y i := by
  rw [bitN_of_test, bitN_of_test, bitN_of_test, Nat.testBit_and]
  cases x.testBit i <;> cases y.testBit i <;> rfl

/-- The classes that the functions below j have in common. -/
def comTo (xs : List (Int × Int)) : Nat → Nat
  | 0 => 31
  | j + 1 => comTo xs j &&& setP (fget xs j)
theorem comTo_lt (xs : List (Int × Int)) (j : Nat) : comTo xs j < 32 := by
  induction j with
  | zero => show 31 < 32; decide
  | succ j ih => exact Nat.lt_of_le_of_lt Nat.and_le_left ih
/-- All functions of a list are in the class k. -/
def allCls (xs : List (Int × Int)) (k j : Nat) : Bool := allLt j fun i => clsP (fget xs i) k
theorem allCls_succ (xs : List (Int × Int)) (k j : Nat) : allCls xs k (j + 1) = (allCls xs k j && clsP (fget xs j) k) := allLt_succ _ _
theorem setP_digit (p : Int × Int) (k : Nat) (hk : k < 5) : bitN (setP p) k = (clsP p k).toNat := bitN_sum _ 5 (fun r _ => clsV_le _ _ _ r) k hk
theorem comTo_digit (xs : List (Int × Int)) (k : Nat) (hk : k < 5) (j : Nat) : bitN (comTo xs j) k = (allCls xs k j).toNat := by
  induction j with
  | zero =>
    have : ∀ k < 5, bitN 31 k = 1 := by decide
    exact this k hk
  | succ j ih =>
    rw [comTo, bitN_and, ih, setP_digit _ k hk, allCls_succ]
    cases allCls xs k j <;> cases clsP (fget xs j) k <;> rfl

def wholeN (L : Nat) : Nat := 2 ^ L - 1
theorem whole_digit : ∀ L < 9, ∀ i < L, bitN (wholeN L) i = 1 := by decide +kernel
theorem partTo_whole (xs : List (Int × Int)) (k : Nat) (h8 : xs.length ≤ 8) (j : Nat) (hj : j ≤ xs.length) : partTo xs (wholeN xs.length) k j = allCls xs k j := by
  induction j with
  | zero => rfl
  | succ j ih =>
    rw [partTo_succ, allCls_succ, ih (by omega)]
    have h1 := whole_digit xs.length (by omega) j (by omega)
    simp [h1]
theorem part_whole (xs : List (Int × Int)) (h8 : xs.length ≤ 8) : partN xs (wholeN xs.length) = comTo xs xs.length := by
  rw [partN, sum_is _ 5 _ (fun r _ => partV_le _ _ r) (comTo_lt xs _)]
  intro r hr
  rw [comTo_digit xs r hr, partV, partTo_whole xs r h8 _ (Nat.le_refl _)]

/-- The code of a list of functions. -/
def codeL (xs : List (Int × Int)) : Int := if allTo xs xs.length then (if 8 < xs.length then 2 else 0) else 1

set_option maxRecDepth 100000 in
set_option maxHeartbeats 1000000 in
theorem listCode_any {base : Nat} {s : Value} {xs : List (Int × Int)} (hl : xs.length ≤ 1048576) (w : World) (h : OwnsF w base s xs) {c : Int} (hc : codeL xs = c) :
    Calls Try.prog 79 #[s] w fun e w' => e = .returned (.int .i64 c) ∧ Below w.heap.size w w' := by
  subst hc
  unfold codeL
  have AF := Lib.hid (fun b => areFuncs_any (b := b) hl w h)
  obtain ⟨a, cap, rfl, _⟩ := h.cells
  clear h
  cases hA : allTo xs xs.length
  · have HA := Lib.hid hA
    clear hA
    rw [if_neg (by decide)]
    generalize xs.length = L at *
    go_enter Try.func79, Try.ntmps79
    go_wp2_with (go_at_call 108; refine (AF.out _ HA.out).mono ?_; rintro e w2 ⟨rfl, hb2⟩)
    go_ret
    exact ⟨rfl, hb2⟩
  · have HA := Lib.hid hA
    clear hA
    rw [if_pos rfl]
    by_cases h8 : 8 < xs.length
    · rw [if_pos h8]
      have hd : decide ((8 : Int) < (xs.length : Int)) = true := by simp; omega
      go_enter Try.func79, Try.ntmps79
      go_wp2_with (go_at_call 108; refine (AF.out _ HA.out).mono ?_; rintro e w2 ⟨rfl, hb2⟩)
      go_ret
      exact ⟨rfl, hb2⟩
    · rw [if_neg h8]
      have hd : decide ((8 : Int) < (xs.length : Int)) = false := by simp; omega
      go_enter Try.func79, Try.ntmps79
      go_wp2_with (go_at_call 108; refine (AF.out _ HA.out).mono ?_; rintro e w2 ⟨rfl, hb2⟩)
      go_ret
      exact ⟨rfl, hb2⟩

set_option maxRecDepth 100000 in
set_option maxHeartbeats 2000000 in
theorem l02Code_any {base : Nat} {s : Value} {xs : List (Int × Int)} (hl : xs.length ≤ 1048576) (w : World) (h : OwnsF w base s xs) {c : Int} (hcd : codeL xs = c) :
    Calls Try.prog 77 #[s] w fun e w' => e = .returned (.int .i64 c) ∧ Below w.heap.size w w' := by
  subst hcd
  unfold codeL
  obtain ⟨a, cap, rfl, hrow⟩ := h.cells
  have HROW := Lib.hid hrow
  clear h hrow
  generalize hL : xs.length = L at hl HROW ⊢
  clear hL
  generalize hA : allTo xs L = A
  have HBB := Lib.hid hA
  clear hA
  go_enter Try.func77, Try.ntmps77
  go_wp2
  go_loopw [3] (fun i' wr => ∃ i : Nat, i ≤ L ∧ i' = .int .i64 i ∧ Hid (allTo xs i = true) ∧ Below w.heap.size w wr) (fun i' _ => L - (intOf i').toNat)
  case atStart => exact ⟨0, Nat.zero_le _, rfl, Lib.hid rfl, Below.refl _ _⟩
  case round =>
    obtain ⟨i, hi, rfl, hm, hB⟩ := hrel
    by_cases hlt : i < L
    · obtain ⟨g, rfl, hg, hc⟩ : ∃ g, a = some ⟨g, 0, none⟩ ∧ g < w.heap.size ∧ Hid (∀ j, j < L → w.cell? ⟨g, j * 2, none⟩ = some (.int .i64 (fget xs j).1) ∧ w.cell? ⟨g, j * 2 + 1, none⟩ = some (.int .i64 (fget xs j).2)) := by
        rcases HROW.out with h0 | h1
        · omega
        · exact h1
      obtain ⟨c0, c1⟩ := hc.out i hlt
      have d0 := (hB.cell (p := ⟨g, i * 2, none⟩) hg).trans c0
      have d1 := (hB.cell (p := ⟨g, i * 2 + 1, none⟩) hg).trans c1
      clear c0 c1
      cases hf : isF (fget xs i).1 (fget xs i).2
      · obtain rfl : A = false := HBB.out.symm.trans (allTo_false hlt hf)
        go_wp2_with (go_at_call 61; refine (l01Is_is hf _).mono ?_; rintro e w2 ⟨rfl, hb2⟩)
        go_ret
        exact ⟨rfl, bthen hB hb2⟩
      · have HM := Lib.hid (show allTo xs (i + 1) = true by rw [allTo_succ, hm.out, hf]; rfl)
        go_wp2_with (go_at_call 61; refine (l01Is_is hf _).mono ?_; rintro e w2 ⟨rfl, hb2⟩)
        go_roundw
        case rel => exact ⟨i + 1, by omega, by go_num, HM, bthen hB hb2⟩
        case measure => simp [intOf]; omega
    · obtain rfl : i = L := by omega
      obtain rfl : A = true := HBB.out.symm.trans hm.out
      by_cases h8 : 8 < i
      · have hd : decide ((8 : Int) < (i : Int)) = true := by simp; omega
        go_wp2
        go_ret
        exact ⟨rfl, hB⟩
      · have hd : decide ((8 : Int) < (i : Int)) = false := by simp; omega
        go_wp2
        go_ret
        exact ⟨rfl, hB⟩

theorem whole_int : ∀ L < 9, wrap64 (2 ^ L) = ((2 ^ L : Nat) : Int) ∧ ((2 ^ L : Nat) : Int) - 1 = (wholeN L : Int) ∧ wholeN L < 2 ^ 62 := by decide +kernel

end Go.Proofs.Ytbdhlokbpbiijab
