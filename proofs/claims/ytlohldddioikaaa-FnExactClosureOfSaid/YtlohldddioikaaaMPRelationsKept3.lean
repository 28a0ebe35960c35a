/-
  The texts NP3, C1, C2, NP4, D1, K1, K2, K3, K4, K5, K6, CT1, CT2, M1, M2, M4 in one.
-/
import Derived.Test.YtlohldddioikaaaMPRelationsKept2
import Derived.StillTailTactics
import Derived.BigRegion
import Derived.Deep.SlicePairs

/- NP3:
  putFrom by contract: one more to put in. -/
namespace Go.Proofs.Ytlohldddioikaaa
open Go.RowKit Go.Shelf
set_option linter.unusedVariables false
set_option linter.unusedSimpArgs false

theorem Firm.drew {β : Type} {K : Nat} {J : β → World → Prop} (h : Firm K J) {s : β} {W : World} (hs : J s W) : J s W.drew :=
  h s W W.drew none hs ⟨rfl, rfl, rfl, Nat.le_refl _, fun _ _ _ => rfl⟩ (fun r e => by cases e)
theorem Firm.set {β : Type} {K : Nat} {J : β → World → Prop} (h : Firm K J) {s : β} {W : World} (b o : Nat) (v : Value) (hs : J s W) (hb : K ≤ b) : J s (W.setCell ⟨b, o, none⟩ v) :=
  h s W _ (some b) hs (grownSet W b o v) (fun r e => by cases e; exact hb)

/-- All that is handed out behind p. -/
def outs (sp : Value) {v : Nat → Nat} (hv : ∀ q, v q < 2 ^ 4) (gs p : List Nat) (d : Nat) : List Out := (allP gs d).map fun t => outOf sp hv (p ++ t)
theorem outs_zero (sp : Value) {v : Nat → Nat} (hv : ∀ q, v q < 2 ^ 4) (gs p : List Nat) : outs sp hv gs p 0 = [outOf sp hv p] := by simp [outs, allP]
/-- .. the first j of what is put in next. -/
def outsTo (sp : Value) {v : Nat → Nat} (hv : ∀ q, v q < 2 ^ 4) (gs p : List Nat) (d j : Nat) : List Out := (gs.take j).flatMap fun a => outs sp hv gs (p ++ [a]) d
theorem outsTo_succ (sp : Value) {v : Nat → Nat} (hv : ∀ q, v q < 2 ^ 4) (gs p : List Nat) (d j a : Nat) (h : gs[j]? = some a) : outsTo sp hv gs p d (j + 1) = outsTo sp hv gs p d j ++ outs sp hv gs (p ++ [a]) d := by
  obtain ⟨hj, e⟩ := List.getElem?_eq_some_iff.1 h
  unfold outsTo
  rw [List.take_succ_eq_append_getElem hj, List.flatMap_append, e]
  simp
theorem outs_succ (sp : Value) {v : Nat → Nat} (hv : ∀ q, v q < 2 ^ 4) (gs p : List Nat) (d : Nat) : outs sp hv gs p (d + 1) = outsTo sp hv gs p d gs.length := by
  unfold outsTo outs
  rw [List.take_length, allP, List.map_flatMap]
  congr 1
  funext a
  rw [List.map_map]
  congr 1
  funext t
  simp
theorem outs_length (sp : Value) {v : Nat → Nat} (hv : ∀ q, v q < 2 ^ 4) (gs p : List Nat) (d : Nat) : (outs sp hv gs p d).length = gs.length ^ d := by simp [outs, allP_length]
theorem outsTo_length (sp : Value) {v : Nat → Nat} (hv : ∀ q, v q < 2 ^ 4) (gs p : List Nat) (d j : Nat) (hj : j ≤ gs.length) : (outsTo sp hv gs p d j).length = j * gs.length ^ d := by
  simp [outsTo, List.length_flatMap, outs_length, List.map_const', List.sum_replicate_nat, Nat.min_eq_left hj]

theorem outsTo_pref (sp : Value) {v : Nat → Nat} (hv : ∀ q, v q < 2 ^ 4) (gs p : List Nat) (d j k : Nat) (h : j ≤ k) : outsTo sp hv gs p d j <+: outsTo sp hv gs p d k := by
  unfold outsTo
  have e : gs.take k = gs.take j ++ (gs.take k).drop j := by
    conv => lhs; rw [← List.take_append_drop j (gs.take k), List.take_take, Nat.min_eq_left h]
  rw [e, List.flatMap_append]
  exact ⟨_, rfl⟩
theorem outsTo_cat (sp : Value) {v : Nat → Nat} (hv : ∀ q, v q < 2 ^ 4) (gs p : List Nat) (d j a : Nat) (h : gs[j]? = some a) (q : List Out) (hq : q <+: outs sp hv gs (p ++ [a]) d) : outsTo sp hv gs p d j ++ q <+: outsTo sp hv gs p d (j + 1) := by
  rw [outsTo_succ sp hv gs p d j a h]
  exact (List.prefix_append_right_inj _).2 hq

/-- What putFrom answers, and what it leaves. -/
def PutPost {v : Nat → Nat} (hv : ∀ q, v q < 2 ^ 4) (T U L m d : Nat) (S : Nat → Prop) (J Jx : List Out → World → Prop) (gs p : List Nat) (pre : List Out) (tr : List Int) (W : World) (e : Ending) (W' : World) : Prop :=
  (e = .returned (.bool true) ∧ Above (fun k => S k ∧ k ≠ T ∧ k ≠ U) W W' ∧ (∃ tr' pu', SMem T U L m tr' pu' W' ∧ ∀ j, 2 ^ d ≤ j → tr'[j]? = tr[j]?) ∧ J (pre ++ outs (.slice (some ⟨U, 0, none⟩) m m) hv gs p d) W') ∨
  (e = .returned (.bool false) ∧ ∃ q, q <+: outs (.slice (some ⟨U, 0, none⟩) m m) hv gs p d ∧ Jx (pre ++ q) W')

/-- What is asked of memory at a call of putFrom. -/
structure PutPre (v : Nat → Nat) (T U L m d K N : Nat) (S : Nat → Prop) (J : List Out → World → Prop) (sg : Value) (gs p : List Nat) (pre : List Out) (tr pu : List Int) (W : World) : Prop where
  hp : p.length + d = m
  hm : SMem T U L m tr pu W
  hlev : ∀ q, q < 2 ^ d → tr[2 ^ d + q]? = some ((levF v p q : Nat) : Int)
  hj : J pre W
  hN : pre.length + gs.length ^ d ≤ N
  hK : K ≤ W.heap.size
  hg : Owns W 0 sg (nI gs)

/-- What stays as it is. -/
structure PutFix (T U L m K : Nat) (S : Nat → Prop) (sg : Value) (gs : List Nat) : Prop where
  hL : L = 2 ^ (m + 1)
  m4 : m ≤ 4
  kT : K ≤ T
  kU : K ≤ U
  ne : T ≠ U
  kS : ∀ k, K ≤ k → S k
  gS : ∀ k, sg.ownBlock = some k → S k ∧ k ≠ T ∧ k ≠ U
  g16 : ∀ a, a ∈ gs → a < 16
  gl : gs.length ≤ 16

set_option maxRecDepth 100000 in
set_option maxHeartbeats 8000000 in
theorem putFrom_succ {v : Nat → Nat} (hv : ∀ q, v q < 2 ^ 4) (l T U K m N L : Nat) (S : Nat → Prop) (sg : Value) (gs : List Nat) (J Jx : List Out → World → Prop) (hJ : Firm K J) (fx : PutFix T U L m K S sg gs) (d : Nat)
    (ih : ∀ p pre tr pu W, PutPre v T U L m d K N S J sg gs p pre tr pu W →
      Calls Try.prog 107 #[.agg #[.slice (some ⟨T, 0, none⟩) L L, .slice (some ⟨U, 0, none⟩) m m, sg], .int .i64 (p.length : Int), .func (.yield l) #[] #[]] W (PutPost hv T U L m d S J Jx gs p pre tr W))
    (p : List Nat) (pre : List Out) (tr pu : List Int) (W : World) (h : PutPre v T U L m (d + 1) K N S J sg gs p pre tr pu W) :
    Calls Try.prog 107 #[.agg #[.slice (some ⟨T, 0, none⟩) L L, .slice (some ⟨U, 0, none⟩) m m, sg], .int .i64 (p.length : Int), .func (.yield l) #[] #[]] W (PutPost hv T U L m (d + 1) S J Jx gs p pre tr W) := by
  obtain ⟨i, hi'⟩ : ∃ i, p.length = i := ⟨_, rfl⟩
  obtain ⟨hp, hm, hlev, hj, hN, hK, hg⟩ := h
  obtain ⟨hL, m4, kT, kU, ne, kS, gS, g16, gl⟩ := fx
  have lT : T < W.heap.size := (World.ownsRow.lt hm.ot T rfl).2
  have lU : U < W.heap.size := (World.ownsRow.lt hm.ou U rfl).2
  obtain ⟨W1, hW1⟩ : ∃ W1, W.alloc (.cells #[.slice (some ⟨T, 0, none⟩) L L, .slice (some ⟨U, 0, none⟩) m m, sg] 119) = W1 := ⟨_, rfl⟩
  have p0 : W1.cell? ⟨W.heap.size, 0, none⟩ = some (.slice (some ⟨T, 0, none⟩) L L) := by rw [← hW1]; simp [go_sem]
  have p1 : W1.cell? ⟨W.heap.size, 1, none⟩ = some (.slice (some ⟨U, 0, none⟩) m m) := by rw [← hW1]; simp [go_sem]
  have p2 : W1.cell? ⟨W.heap.size, 2, none⟩ = some sg := by rw [← hW1]; simp [go_sem]
  have hb : Below W.heap.size W W1 := by rw [← hW1]; exact bnew _ _
  have sB : S W.heap.size ∧ W.heap.size ≠ T ∧ W.heap.size ≠ U := ⟨kS _ hK, by omega, by omega⟩
  have hA1 : Above (fun k => S k ∧ k ≠ T ∧ k ≠ U) W W1 := Above.below hb
  have hm1 : SMem T U L m tr pu W1 := ⟨hm.ot.below hb, hm.ou.below hb, hm.lt, hm.lu⟩
  have hg1 : Owns W1 0 sg (nI gs) := hg.below hb
  have hj1 : J pre W1 := by rw [← hW1]; exact hJ.alloc _ hj
  obtain ⟨sa, cap, rfl⟩ : ∃ a cap, sg = .slice a gs.length cap := by
    obtain ⟨a, cap, e⟩ := owns_len hg (nI_length gs)
    exact ⟨a, cap, e⟩
  rw [hi'] at hp ⊢
  have hd4 : d ≤ 3 := by omega
  have hlp : (i : Int) < (m : Int) := by omega
  have hne : ((i : Int) == (m : Int)) = false := by simp; omega
  have hs1 : (m : Int) - (i : Int) - 1 = (d : Int) := by omega
  obtain ⟨F, hFd⟩ : ∃ F, F = 2 ^ d := ⟨_, rfl⟩
  have hF : wrap64 ((2 : Int) ^ d) = (F : Int) := by
    have h8 : F ≤ 8 := by rw [hFd]; exact Nat.pow_le_pow_right (by decide) hd4
    have e : (2 : Int) ^ d = (F : Int) := by rw [hFd]; push_cast; rfl
    rw [e]
    exact IntWalk.wrap64_in _ ⟨by omega, by omega⟩
  have F1 : 1 ≤ F := by rw [hFd]; exact Nat.two_pow_pos d
  have F8 : F ≤ 8 := by rw [hFd]; exact Nat.pow_le_pow_right (by decide) hd4
  have hF2 : 2 ^ (d + 1) = 2 * F := by rw [hFd, Nat.pow_succ]; omega
  have FL : 4 * F ≤ L := by
    rw [hFd, hL]
    have h1 : 2 ^ (d + 2) ≤ 2 ^ (m + 1) := Nat.pow_le_pow_right (by decide) (by omega)
    have h2 : 2 ^ (d + 2) = 4 * 2 ^ d := by rw [Nat.pow_succ, Nat.pow_succ, Nat.mul_assoc, Nat.mul_comm]
    exact h2 ▸ h1
  have L32 : L ≤ 32 := by rw [hL]; exact Nat.pow_le_pow_right (by decide) (show m + 1 ≤ 5 by omega)
  rw [hF2] at hlev
  have HF2 := Lib.hid hF2
  have HLV := Lib.hid hlev
  have HFD := Lib.hid hFd
  have HN := Lib.hid hN
  have HOS := Lib.hid (outs_succ (.slice (some ⟨U, 0, none⟩) m m) hv gs p d)
  have HI := Lib.hid hi'
  clear hi'
  clear hL hF2 hFd hlev hN hm hg hj hb
  go_enter Try.func107, Try.ntmps107
  go_wp2_with fail
  clear hW1
  rw [hF]
  clear hF
  go_loopw [34] (fun j' wr => ∃ j : Nat, j ≤ gs.length ∧ j' = .int .i64 j ∧ (∃ trj puj, SMem T U L m trj puj wr ∧ ∀ x, 2 * F ≤ x → trj[x]? = tr[x]?) ∧ Above (fun k => S k ∧ k ≠ T ∧ k ≠ U) W1 wr ∧ J (pre ++ outsTo (.slice (some ⟨U, 0, none⟩) m m) hv gs p d j) wr)
    (fun j' _ => gs.length - (intOf j').toNat)
  case atStart => exact ⟨0, Nat.zero_le _, rfl, ⟨tr, pu, hm1, fun _ _ => rfl⟩, Above.refl _ _, by simpa [outsTo] using hj1⟩
  case round =>
    obtain ⟨j, hjl, rfl, ⟨trj, puj, hmj, hkeep⟩, hAj, hJj⟩ := hrel
    by_cases hlt : j < gs.length
    · obtain ⟨a, ha⟩ : ∃ a, gs[j]? = some a := ⟨_, List.getElem?_eq_getElem hlt⟩
      have a16 : a < 16 := g16 a (List.mem_of_getElem? ha)
      obtain ⟨G, rfl⟩ : ∃ G, sa = some ⟨G, 0, none⟩ := by
        rcases hg1.shape with ⟨e, _⟩ | ⟨_, g, c, e, _⟩
        · have := congrArg List.length e; rw [nI_length] at this; simp at this; rw [this] at hlt; simp at hlt
        · injection e with e1 _ _
          exact ⟨g, e1⟩
      have hgj := owns_above hg1 hAj gS
      have cG : wr.cell? ⟨G, j, none⟩ = some (.int .i64 (a : Int)) := cell_of_owns hgj (by rw [nI_length]) j _ (by simp [nI, ha])
      have q0 := cell_above hAj sB p0
      have q1 := cell_above hAj sB p1
      obtain ⟨W2, hW2⟩ : ∃ W2, wr.setCell ⟨U, i, none⟩ (.int .i64 (a : Int)) = W2 := ⟨_, rfl⟩
      obtain ⟨u, cu⟩ : ∃ u, wr.cell? ⟨U, i, none⟩ = some u := by
        have hl : i < puj.length := by rw [hmj.lu]; omega
        exact ⟨_, cell_of_owns hmj.ou (by rw [hmj.lu]) i _ (List.getElem?_eq_getElem hl)⟩
      have fu : wr.frozen? ⟨U, i, none⟩ = false := by
        have := hmj.ou; rw [← hmj.lu] at this; exact frozen_of_owns this i
      have hm2 : SMem T U L m trj (puj.set i a) W2 := by
        rw [← hW2]
        exact ⟨owns_other hmj.ot U i _ (fun k e => by cases e; exact ne), owns_set hmj.ou hmj.lu.symm i a, hmj.lt, by rw [List.length_set]; exact hmj.lu⟩
      have hA2 : Above (fun k => S k ∧ k ≠ T ∧ k ≠ U) W1 W2 := by
        rw [← hW2]; exact hAj.trans (Above.grown (grownSet _ _ _ _) (fun r e h => by cases e; exact h.2.2 rfl))
      have hJ2 : J (pre ++ outsTo (.slice (some ⟨U, 0, none⟩) m m) hv gs p d j) W2 := by
        rw [← hW2]; exact hJ _ _ _ _ hJj (grownSet _ _ _ _) (fun r e => by cases e; exact kU)
      have HA := Lib.hid ha
      clear ha hmj hAj hJj hgj
      go_wp2
      go_loopw [10] (fun pl wq => ∃ k : Nat, k ≤ F ∧ pl = .int .i64 ((F + k : Nat) : Int) ∧ SMem T U L m (setsN trj F (fun q => ((levF v (p ++ [a]) q : Nat) : Int)) k) (puj.set i a) wq ∧ Above (fun k => S k ∧ k ≠ T ∧ k ≠ U) W1 wq ∧ J (pre ++ outsTo (.slice (some ⟨U, 0, none⟩) m m) hv gs p d j) wq)
        (fun pl _ => 2 * F - (intOf pl).toNat)
      case atStart => exact ⟨0, Nat.zero_le _, by simp, hm2, hA2, hJ2⟩
      case round =>
        clear q0 q1 cG cu fu hW2 hm2 hA2 hJ2
        obtain ⟨k, hk, rfl, hmq, hAq, hJq⟩ := hrel
        have q0 := cell_above hAq sB p0
        have q1 := cell_above hAq sB p1
        have q2 := cell_above hAq sB p2
        by_cases hkl : k < F
        · have hx1 : (setsN trj F (fun q => ((levF v (p ++ [a]) q : Nat) : Int)) k)[2 * (F + k)]? = some ((levF v p (2 * k) : Nat) : Int) := by
            rw [setsN_out _ _ _ _ _ (by omega), hkeep _ (by omega), show 2 * (F + k) = 2 * F + 2 * k by omega]
            exact HLV.out _ (by omega)
          have hx2 : (setsN trj F (fun q => ((levF v (p ++ [a]) q : Nat) : Int)) k)[2 * (F + k) + 1]? = some ((levF v p (2 * k + 1) : Nat) : Int) := by
            rw [setsN_out _ _ _ _ _ (by omega), hkeep _ (by omega), show 2 * (F + k) + 1 = 2 * F + (2 * k + 1) by omega]
            exact HLV.out _ (by omega)
          have hlev2 := Lib.hid (levF_snoc v p a k)
          have hop := sel_ops (levF v p (2 * k)) (levF_lt hv p _) (levF v p (2 * k + 1)) (levF_lt hv p _) a a16
          have x16 := levF_lt hv p (2 * k)
          generalize levF v p (2 * k) = x1 at hx1 hlev2 hop x16
          generalize levF v p (2 * k + 1) = x2 at hx2 hlev2 hop
          obtain ⟨P, hP⟩ : ∃ P, P = F + k := ⟨_, rfl⟩
          obtain ⟨A, hA⟩ : ∃ A, A = 2 * P := ⟨_, rfl⟩
          obtain ⟨B, hB⟩ : ∃ B, B = A + 1 := ⟨_, rfl⟩
          have hw1 : IntKind.i64.wrap (2 * (P : Int)) = (A : Int) := by rw [wrap64_small (by omega) (by omega)]; omega
          have hw2 : IntKind.i64.wrap ((A : Int) + 1) = (B : Int) := by rw [wrap64_small (by omega) (by omega)]; omega
          have c1 : wr.cell? ⟨T, A, none⟩ = some (.int .i64 (x1 : Int)) := cell_of_owns hmq.ot (by rw [hmq.lt]) A _ (by rw [hA, hP]; exact hx1)
          have c2 : wr.cell? ⟨T, B, none⟩ = some (.int .i64 (x2 : Int)) := cell_of_owns hmq.ot (by rw [hmq.lt]) B _ (by rw [hB, hA, hP]; exact hx2)
          have hPL : P < L := by omega
          have hAL : A < L := by omega
          have hBL : B < L := by omega
          have hP2 : (P : Int) < 2 * (F : Int) := by omega
          obtain ⟨u3, c3⟩ : ∃ u, wr.cell? ⟨T, P, none⟩ = some u := by
            have hl : P < (setsN trj F (fun q => ((levF v (p ++ [a]) q : Nat) : Int)) k).length := by rw [hmq.lt]; omega
            exact ⟨_, cell_of_owns hmq.ot (by rw [hmq.lt]) P _ (List.getElem?_eq_getElem hl)⟩
          have f3 : wr.frozen? ⟨T, P, none⟩ = false := by
            have := hmq.ot; rw [← hmq.lt] at this; exact frozen_of_owns this P
          have HMQ := Lib.hid hmq
          have HPK := Lib.hid hP
          have hA3 := Lib.hid hA
          have hB3 := Lib.hid hB
          rw [← hP]
          clear hx1 hx2 hmq hA hB hP
          go_wp2
          go_region
          go_wp2
          go_roundw
          case rel =>
            have hl2 := hlev2.out
            refine ⟨k + 1, by omega, ?_, ?_, ?_, ?_⟩
            · rw [HPK.out]; go_num
            · have hst := owns_set HMQ.out.ot HMQ.out.lt.symm P ((selN x1 x2 a : Nat) : Int)
              have e : (setsN trj F (fun q => ((levF v (p ++ [a]) q : Nat) : Int)) k).set P ((selN x1 x2 a : Nat) : Int) = setsN trj F (fun q => ((levF v (p ++ [a]) q : Nat) : Int)) (k + 1) := by
                rw [setsN, hl2, HPK.out]
              rw [e] at hst
              exact ⟨hst.below (Below.refl _ _).drew, (owns_other HMQ.out.ou T P _ (fun k e => by cases e; exact fun h => ne h.symm)).below (Below.refl _ _).drew, by rw [setsN_length, ← setsN_length trj F (fun q => ((levF v (p ++ [a]) q : Nat) : Int)) k]; exact HMQ.out.lt, HMQ.out.lu⟩
            · exact hAq.trans ((Above.grown (grownSet wr T P _) (fun r e h => by cases e; exact h.2.1 rfl)).trans (Above.below (Below.refl _ _).drew))
            · exact hJ.drew (hJ.set T P _ hJq kT)
          case measure => simp [intOf]; omega
        · obtain rfl : k = F := by omega
          have hsN := setsN_length trj k (fun q => ((levF v (p ++ [a]) q : Nat) : Int)) k
          have hlen2 : (p ++ [a]).length = i + 1 := by rw [List.length_append, HI.out]; rfl
          have hN2 : (pre ++ outsTo (.slice (some ⟨U, 0, none⟩) m m) hv gs p d j).length + gs.length ^ d ≤ N := by
            have h1 := HN.out
            rw [List.length_append, outsTo_length _ _ _ _ _ _ hjl]
            have h2 : (j + 1) * gs.length ^ d ≤ gs.length * gs.length ^ d := Nat.mul_le_mul_right _ hlt
            rw [Nat.pow_succ, Nat.mul_comm] at h1
            rw [Nat.add_mul, Nat.one_mul] at h2
            omega
          have hKr : K ≤ wr.heap.size := Nat.le_trans (Nat.le_trans hK (Nat.le_trans (by have := hA1.size; exact this) (Nat.le_refl _))) hAq.size
          have IH := ih (p ++ [a]) (pre ++ outsTo (.slice (some ⟨U, 0, none⟩) m m) hv gs p d j) (setsN trj k (fun q => ((levF v (p ++ [a]) q : Nat) : Int)) k) (puj.set i a) wr
            ⟨by rw [hlen2]; omega, hmq, fun q hq => by rw [← HFD.out] at hq ⊢; exact setsN_in _ _ _ _ _ hq (by have := hmq.lt; rw [hsN] at this; omega), hJq, hN2, hKr, owns_above hg1 hAq gS⟩
          rw [hlen2] at IH
          have hw5 : IntKind.i64.wrap ((i : Int) + 1) = ((i + 1 : Nat) : Int) := by rw [wrap64_small (by omega) (by omega)]; push_cast; rfl
          have IHH := Lib.hid IH
          have HMQ := Lib.hid hmq
          have HHJ := Lib.hid hJq
          have hkp : ∀ x, 2 * k ≤ x → (setsN trj k (fun q => ((levF v (p ++ [a]) q : Nat) : Int)) k)[x]? = tr[x]? := fun x hx => by rw [setsN_out _ _ _ _ _ (by omega), hkeep x hx]
          have HKP := Lib.hid hkp
          have hP2 : decide (((k + k : Nat) : Int) < 2 * (k : Int)) = false := by simp; omega
          clear IH hmq hJq hsN hlen2 hN2 hkp
          go_wp2_with (go_at_call 107; refine IHH.out.mono ?_; rintro e w5 (⟨rfl, hA5, ⟨tr5, pu5, hm5, hk5⟩, hJ5⟩ | ⟨rfl, q, hqp, hq⟩))
          · go_roundw
            case rel =>
              refine ⟨j + 1, by omega, by go_num, ⟨tr5, pu5, hm5, fun x hx => ?_⟩, hAq.trans hA5, ?_⟩
              · rw [hk5 x (by rw [← HFD.out]; omega), HKP.out x hx]
              · rw [outsTo_succ _ _ _ _ _ _ _ HA.out, ← List.append_assoc]; exact hJ5
            case measure => simp [intOf]; omega
          · go_ret
            refine .inr ⟨rfl, outsTo (.slice (some ⟨U, 0, none⟩) m m) hv gs p d j ++ q, ?_, by rw [← List.append_assoc]; exact hq⟩
            rw [HOS.out]
            exact (outsTo_cat _ _ _ _ _ _ _ HA.out q hqp).trans (outsTo_pref _ _ _ _ _ _ _ hlt)
    · obtain rfl : j = gs.length := by omega
      have HMJ := Lib.hid hmj
      have HJJ := Lib.hid hJj
      clear hmj hJj
      go_wp2
      go_ret
      refine .inl ⟨rfl, hA1.trans hAj, ⟨trj, puj, HMJ.out, fun x hx => hkeep x (by rw [← HF2.out]; exact hx)⟩, ?_⟩
      rw [HOS.out]
      exact HJJ.out
end Go.Proofs.Ytlohldddioikaaa

/- C1:
  ProjectionOf in both packages. -/
namespace Go.Proofs.Ytlohldddioikaaa
open Go.RowKit

set_option maxHeartbeats 400000 in
theorem isVariable_any (n i : Int) (w : World) :
    Calls Try.prog 98 #[.int .i64 n, .int .i64 i] w fun e w' => e = .returned (.bool (inB i 0 (n - 1))) ∧ w = w' := by
  by_cases h1 : 0 ≤ i
  · by_cases h2 : i < n
    · rw [inB_true h1 (by omega)]
      go_enter Try.func98, Try.ntmps98
      go_wp2
      go_ret
      exact ⟨rfl, rfl⟩
    · rw [inB_false (by omega)]
      go_enter Try.func98, Try.ntmps98
      go_wp2
      go_ret
      exact ⟨rfl, rfl⟩
  · rw [inB_false (by omega)]
    go_enter Try.func98, Try.ntmps98
    go_wp2
    go_ret
    exact ⟨rfl, rfl⟩
theorem isVariable_is {n i : Int} {x : Bool} (h : inB i 0 (n - 1) = x) (w : World) :
    Calls Try.prog 98 #[.int .i64 n, .int .i64 i] w fun e w' => e = .returned (.bool x) ∧ w = w' := h ▸ isVariable_any n i w

end Go.Proofs.Ytlohldddioikaaa

/- C2:
  ConstantOf in both packages. -/
namespace Go.Proofs.Ytlohldddioikaaa
open Go.RowKit

set_option maxHeartbeats 400000 in
theorem isDigit_any (v : Int) (w : World) :
    Calls Try.prog 108 #[.int .i64 v] w fun e w' => e = .returned (.bool (inB v 0 1)) ∧ w = w' := by
  by_cases h1 : v = 0
  · subst h1
    rw [inB_true (by omega) (by omega)]
    go_enter Try.func108, Try.ntmps108
    go_wp2
    go_ret
    exact ⟨rfl, rfl⟩
  · have e0 : (v == 0) = false := by simp [h1]
    by_cases h2 : v = 1
    · subst h2
      rw [inB_true (by omega) (by omega)]
      go_enter Try.func108, Try.ntmps108
      go_wp2
      go_ret
      exact ⟨rfl, rfl⟩
    · have e1 : (v == 1) = false := by simp [h2]
      rw [inB_false (by omega)]
      go_enter Try.func108, Try.ntmps108
      go_wp2
      go_ret
      exact ⟨rfl, rfl⟩
theorem isDigit_is {v : Int} {x : Bool} (h : inB v 0 1 = x) (w : World) :
    Calls Try.prog 108 #[.int .i64 v] w fun e w' => e = .returned (.bool x) ∧ w = w' := h ▸ isDigit_any v w

set_option maxHeartbeats 400000 in
theorem Constant1_any (b r : Nat) (v : Int) (w : World) (hc : w.cell? ⟨b, 0, none⟩ = some (.int .i64 v)) :
    Calls Try.prog 109 #[.int .i64 (r : Int), .pointer (some ⟨b, 0, none⟩)] w fun e w' => e = .returned (.int .i64 v) ∧ Below w.heap.size w w' := by
  go_enter Try.func109, Try.ntmps109
  go_wp2
  go_ret
  exact ⟨rfl, Below.refl _ _⟩

set_option maxRecDepth 100000 in
set_option maxHeartbeats 1000000 in
theorem implConstantOf_yes {n : Int} {R : Nat} (h0 : 0 ≤ n) (h4 : n ≤ 4) (r0 : 0 < R) (r16 : R ≤ 16) (hR : Hid (rowsN n = (R : Int))) (he : R = 2 ^ n.toNat) (v : Nat) (hv : v ≤ 1) (w : World) :
    Calls Try.prog 106 #[.int .i64 n, .int .i64 (v : Int)] w fun e w' => e = .returned (.tuple #[.agg #[.int .i64 n, .int .i64 (v * allN n)], .int .i64 0]) ∧ Below w.heap.size w w' := by
  have H1 : inB n 0 4 = true := inB_true (by omega) h4
  have H2 : inB (v : Int) 0 1 = true := inB_true (by omega) (by omega)
  obtain ⟨W1, hW1⟩ : ∃ W1, (w.alloc (.cells #[.int .i64 (v : Int)] 2)).alloc (.cells #[.int .i64 0, .int .i64 0] 34) = W1 := ⟨_, rfl⟩
  have cI : W1.cell? ⟨w.heap.size, 0, none⟩ = some (.int .i64 (v : Int)) := by rw [← hW1]; simp [go_sem]
  have c0 : W1.cell? ⟨w.heap.size + 1, 0, none⟩ = some (.int .i64 0) := by rw [← hW1]; simp [go_sem]
  have c1 : W1.cell? ⟨w.heap.size + 1, 1, none⟩ = some (.int .i64 0) := by rw [← hW1]; simp [go_sem]
  have f0 : W1.frozen? ⟨w.heap.size + 1, 0, none⟩ = false := by rw [← hW1]; simp [go_sem]
  have f1 : W1.frozen? ⟨w.heap.size + 1, 1, none⟩ = false := by rw [← hW1]; simp [go_sem]
  have hB : Below w.heap.size w W1 := by rw [← hW1]; exact balloc (bnew _ _) _
  have F := Lib.hid (funcByRows_any n (by omega) h4 R r0 r16 hR 109 #[.pointer (some ⟨w.heap.size, 0, none⟩)] (enters_of Try.func109 (by kernel_rfl) rfl)
    (fun _ => v) (fun _ _ => hv) W1 (Lib.hid fun W hW r _ => Constant1_any w.heap.size r v W (kc hW cI)))
  rw [orBits_sum r0 _ (fun _ _ => hv), sum_const he hv] at F
  clear he
  go_enter Try.func106, Try.ntmps106
  go_wp2_with (first
    | (go_at_call 89; refine (isArity_is H1 _).mono ?_; rintro e w' ⟨rfl, rfl⟩)
    | (go_at_call 108; refine (isDigit_is H2 _).mono ?_; rintro e w' ⟨rfl, rfl⟩)
    | (go_at_call 83; refine F.out.mono ?_; rintro e w3 ⟨rfl, hb3⟩; have e0 := kc hb3 c0; have e1 := kc hb3 c1; have k0 := kf hb3 c0 f0; have k1 := kf hb3 c1 f1; have hB3 := bthen hB hb3))
  exact bodyPost_ret (v := .tuple #[.agg #[.int .i64 n, .int .i64 (v * allN n)], .int .i64 0]) (by simp [results, Try.results106, go_sem, e0, e1]) rfl ⟨rfl, (hB3.setCell (p := ⟨w.heap.size + 1, 0, none⟩) (by simp) _).setCell (p := ⟨w.heap.size + 1, 1, none⟩) (by simp) _⟩

set_option maxRecDepth 100000 in
set_option maxHeartbeats 1000000 in
theorem implConstantOf_no {n i : Int} (h : ¬ (0 ≤ n ∧ n ≤ 4 ∧ 0 ≤ i ∧ i ≤ 1)) (w : World) :
    Calls Try.prog 106 #[.int .i64 n, .int .i64 i] w fun e w' => e = .returned (.tuple #[.agg #[.int .i64 0, .int .i64 0], .int .i64 2]) ∧ Below w.heap.size w w' := by
  have hB := balloc (bnew w (.cells #[.int .i64 i] 2)) (.cells #[.int .i64 0, .int .i64 0] 34)
  generalize h1 : inB n 0 4 = x
  cases x
  · go_enter Try.func106, Try.ntmps106
    go_wp2_with (first
      | (go_at_call 89; refine (isArity_is h1 _).mono ?_; rintro e w' ⟨rfl, rfl⟩))
    exact bodyPost_ret (v := .tuple #[.agg #[.int .i64 0, .int .i64 0], .int .i64 2]) (by simp [results, Try.results106, go_sem]) rfl ⟨rfl, hB⟩
  · have h2 : inB i 0 1 = false := inB_false (by simp [inB] at h1; omega)
    go_enter Try.func106, Try.ntmps106
    go_wp2_with (first
      | (go_at_call 89; refine (isArity_is h1 _).mono ?_; rintro e w' ⟨rfl, rfl⟩)
      | (go_at_call 108; refine (isDigit_is h2 _).mono ?_; rintro e w' ⟨rfl, rfl⟩))
    exact bodyPost_ret (v := .tuple #[.agg #[.int .i64 0, .int .i64 0], .int .i64 2]) (by simp [results, Try.results106, go_sem]) rfl ⟨rfl, hB⟩

end Go.Proofs.Ytlohldddioikaaa

/- NP4:
  stepsOf: all functions that can be put into one, as a function that is ranged over. -/
namespace Go.Proofs.Ytlohldddioikaaa
open Go.RowKit Go.Shelf
set_option linter.unusedVariables false
set_option linter.unusedSimpArgs false

theorem putFrom_all {v : Nat → Nat} (hv : ∀ q, v q < 2 ^ 4) (l T U K m N L : Nat) (S : Nat → Prop) (sg : Value) (gs : List Nat) (J Jx : List Out → World → Prop) (hJ : Firm K J) (fx : PutFix T U L m K S sg gs)
    (hY : ∀ pre x W, J pre W → pre.length < N → YieldAt Fence.wide 1 Try.prog l (encS x) W fun e W' =>
      Above S W W' ∧ ((e = .returned (.bool true) ∧ J (pre ++ [x]) W') ∨ (e = .returned (.bool false) ∧ Jx (pre ++ [x]) W'))) (d : Nat) :
    ∀ p pre tr pu W, PutPre v T U L m d K N S J sg gs p pre tr pu W →
      Calls Try.prog 107 #[.agg #[.slice (some ⟨T, 0, none⟩) L L, .slice (some ⟨U, 0, none⟩) m m, sg], .int .i64 (p.length : Int), .func (.yield l) #[] #[]] W (PutPost hv T U L m d S J Jx gs p pre tr W) := by
  induction d with
  | zero =>
    intro p pre tr pu W h
    have hp : p.length = m := by have := h.hp; omega
    rw [hp]
    have lT : T < W.heap.size := (World.ownsRow.lt h.hm.ot T rfl).2
    have lU : U < W.heap.size := (World.ownsRow.lt h.hm.ou U rfl).2
    have hN : pre.length < N := by have := h.hN; rw [Nat.pow_zero] at this; omega
    refine ((callsIn_wide (n := 3)).1 (putFrom_zero hv l T U K m N L S sg J Jx hJ fx.hL hY 3 p hp pre tr pu W h.hm h.hlev h.hj hN lT lU h.hK)).mono ?_
    rintro e W' (⟨rfl, ha, hj⟩ | ⟨rfl, hq⟩)
    · refine .inl ⟨rfl, ha.mono (fun k hk => hk.1), ⟨tr, pu, ⟨owns_above h.hm.ot ha (fun k e => by cases e; exact fx.kS _ fx.kT), owns_above h.hm.ou ha (fun k e => by cases e; exact fx.kS _ fx.kU), h.hm.lt, h.hm.lu⟩, fun _ _ => rfl⟩, ?_⟩
      rw [outs_zero]; exact hj
    · exact .inr ⟨rfl, _, by rw [outs_zero]; exact List.prefix_refl _, hq⟩
  | succ d ih => exact fun p pre tr pu W h => putFrom_succ hv l T U K m N L S sg gs J Jx hJ fx d ih p pre tr pu W h

theorem made_zeros (c : Nat) : madeCells (Value.int .i64 0).cells c = (ints (List.replicate c 0)).toArray := by
  apply Array.ext'
  rw [List.toList_toArray]
  exact (toList_madeCells_one (.int .i64 0) c).trans (by simp [ints])

theorem Firm.below {β : Type} {K : Nat} {J : β → World → Prop} (h : Firm K J) {s : β} {W W' : World} (hs : J s W) (hb : Below W.heap.size W W') : J s W' :=
  h s W W' none hs ⟨hb.os, hb.tape, hb.output, hb.size, fun k hk _ => hb.block k hk⟩ (fun r e => by cases e)
theorem own_laid {V : World} {T n : Nat} {xs : List Int} (h : V.heap[T]? = some (.cells (ints xs).toArray 2 (0, 0))) (hn : xs.length = n) (hm : n ≤ 1000) : Owns V T (.slice (some ⟨T, 0, none⟩) n n) xs := by
  subst hn
  have hl : (ints xs).length = xs.length := by simp [ints]
  exact ⟨by rw [hl, Nat.mul_one], .inr ⟨T, xs.length, (ints xs).toArray, rfl, Nat.le_refl _, h, Nat.le_refl _, by unfold maxLen; omega, by rw [List.size_toArray, hl, Nat.mul_one], by rw [List.toList_toArray, Nat.mul_one, ← hl, List.take_length]⟩⟩
theorem cells3_laid {V : World} {B : Nat} {u0 u1 u2 : Value} {t : TypeId} (h : V.heap[B]? = some (.cells #[u0, u1, u2] t (0, 0))) : V.cell? ⟨B, 0, none⟩ = some u0 ∧ V.cell? ⟨B, 1, none⟩ = some u1 ∧ V.cell? ⟨B, 2, none⟩ = some u2 := by
  refine ⟨?_, ?_, ?_⟩ <;> simp [World.cell?, h]

theorem frozen_own {W : World} {base g n cap : Nat} {xs : List Int} (h : Owns W base (.slice (some ⟨g, 0, none⟩) n cap) xs) (hn : n = xs.length) (j : Nat) : W.frozen? ⟨g, j, none⟩ = false := by
  subst hn; exact World.ownsRow.frozenAt h j

theorem three_laid (W : World) (o1 o2 o3 : Obj) : (((W.alloc o1).alloc o2).alloc o3).drew.heap[W.heap.size]? = some o1 ∧ (((W.alloc o1).alloc o2).alloc o3).drew.heap[W.heap.size + 1]? = some o2 ∧ (((W.alloc o1).alloc o2).alloc o3).drew.heap[W.heap.size + 1 + 1]? = some o3 ∧ Below W.heap.size W (((W.alloc o1).alloc o2).alloc o3).drew := by
  have e1 : (W.alloc o1).heap.size = W.heap.size + 1 := by simp
  have e2 : ((W.alloc o1).alloc o2).heap.size = W.heap.size + 1 + 1 := by simp
  have g1 := heap_alloc_new W o1
  have g2 := heap_alloc_new (W.alloc o1) o2
  have g3 := heap_alloc_new ((W.alloc o1).alloc o2) o3
  rw [e1] at g2
  rw [e2] at g3
  refine ⟨?_, ?_, g3, (balloc (balloc (bnew _ _) _) _).drew⟩
  · exact (Below.heap_alloc _ _ _ (by rw [e2]; omega)).trans ((Below.heap_alloc _ _ _ (by rw [e1]; omega)).trans g1)
  · exact (Below.heap_alloc _ _ _ (by rw [e2]; omega)).trans g2

set_option maxRecDepth 100000 in
set_option maxHeartbeats 8000000 in
theorem steps1_any {x R m N : Nat} (ok : FOk (m : Int) x R) (m4 : m ≤ 4) (l Bf Bg Bn K : Nat) (S : Nat → Prop) (sg : Value) (gs : List Nat) (g16 : ∀ a, a ∈ gs → a < 16) (gl : gs.length ≤ 16) (hN : gs.length ^ m ≤ N)
    (J Jx : List Out → World → Prop) (hJ : Firm K J) (kS : ∀ k, K ≤ k → S k) (gS : ∀ k, sg.ownBlock = some k → S k)
    (hY : ∀ pre x W, J pre W → pre.length < N → YieldAt Fence.wide 1 Try.prog l (encS x) W fun e W' =>
      Above S W W' ∧ ((e = .returned (.bool true) ∧ J (pre ++ [x]) W') ∨ (e = .returned (.bool false) ∧ Jx (pre ++ [x]) W')))
    (W : World) (p0 : W.cell? ⟨Bf, 0, none⟩ = some (.int .i64 (m : Int))) (p1 : W.cell? ⟨Bf, 1, none⟩ = some (.int .i64 (x : Int))) (cg : W.cell? ⟨Bg, 0, none⟩ = some sg) (cn : W.cell? ⟨Bn, 0, none⟩ = some (.int .i64 2))
    (hg : Owns W 0 sg (nI gs)) (hK : K ≤ W.heap.size) (hj : J [] W) :
    Calls Try.prog 104 #[.func (.yield l) #[] #[], .pointer (some ⟨Bf, 0, none⟩), .pointer (some ⟨Bg, 0, none⟩), .pointer (some ⟨Bn, 0, none⟩)] W fun e W' => (∃ v, e = .returned v) ∧
      ((∃ sp, J (outs sp (v := fun q => bitN x q * 15) (fun q => by have := bitN_le x q; show bitN x q * 15 < 16; omega) gs [] m) W') ∨ (∃ sp q, q <+: outs sp (v := fun q => bitN x q * 15) (fun q => by have := bitN_le x q; show bitN x q * 15 < 16; omega) gs [] m ∧ Jx q W')) := by
  obtain ⟨i0, hi, hz0, hz1, hz2⟩ := info_parts infoI
  have r16 := ok.r16
  obtain ⟨sa, cap, rfl⟩ : ∃ a cap, sg = .slice a gs.length cap := owns_len hg (nI_length gs)
  have hmk : ∀ (c : Nat) (W : World), c ≤ 32 → (Instr.makeSlice 61 (.int .i64 (c : Int)) (.int .i64 (c : Int))).run Try.prog W = .ok (.slice (some ⟨W.heap.size, 0, none⟩) c c) (W.alloc (.cells (ints (List.replicate c 0)).toArray 2)) := fun c W hc => by
    have h := run_make (P := Try.prog) W 61 2 i0 (.int .i64 0) Try.underlying61 hi hz0 .i64 .i64 (c : Int) (c : Int) (by omega) (by omega) (by rw [hz2]; omega) (by omega)
    rw [hz1, Nat.mul_one, Int.toNat_natCast, made_zeros] at h
    simpa using h
  obtain ⟨L, hL⟩ : ∃ L, L = 2 * R := ⟨_, rfl⟩
  have hwL : IntKind.i64.wrap (2 * (R : Int)) = (L : Int) := by rw [wrap64_small (by omega) (by omega)]; omega
  have hmkL := fun W => hmk L W (by omega)
  have hmkm := fun W => hmk m W (by omega)
  have lf : Bf < W.heap.size := cell_lt p0
  have lg : Bg < W.heap.size := cell_lt cg
  have ln : Bn < W.heap.size := cell_lt cn
  have lf0 : ¬ Bf = W.heap.size := by omega
  have lfr0 : ¬ W.heap.size = Bf := by omega
  have lfl0 : Bf < W.heap.size := by omega
  have lf1 : ¬ Bf = W.heap.size + 1 := by omega
  have lfr1 : ¬ W.heap.size + 1 = Bf := by omega
  have lfl1 : Bf < W.heap.size + 1 := by omega
  have lf2 : ¬ Bf = W.heap.size + 1 + 1 := by omega
  have lfr2 : ¬ W.heap.size + 1 + 1 = Bf := by omega
  have lfl2 : Bf < W.heap.size + 1 + 1 := by omega
  have lg0 : ¬ Bg = W.heap.size := by omega
  have lgr0 : ¬ W.heap.size = Bg := by omega
  have lgl0 : Bg < W.heap.size := by omega
  have lg1 : ¬ Bg = W.heap.size + 1 := by omega
  have lgr1 : ¬ W.heap.size + 1 = Bg := by omega
  have lgl1 : Bg < W.heap.size + 1 := by omega
  have lg2 : ¬ Bg = W.heap.size + 1 + 1 := by omega
  have lgr2 : ¬ W.heap.size + 1 + 1 = Bg := by omega
  have lgl2 : Bg < W.heap.size + 1 + 1 := by omega
  have ln0 : ¬ Bn = W.heap.size := by omega
  have lnr0 : ¬ W.heap.size = Bn := by omega
  have lnl0 : Bn < W.heap.size := by omega
  have ln1 : ¬ Bn = W.heap.size + 1 := by omega
  have lnr1 : ¬ W.heap.size + 1 = Bn := by omega
  have lnl1 : Bn < W.heap.size + 1 := by omega
  have ln2 : ¬ Bn = W.heap.size + 1 + 1 := by omega
  have lnr2 : ¬ W.heap.size + 1 + 1 = Bn := by omega
  have lnl2 : Bn < W.heap.size + 1 + 1 := by omega
  have HL := Lib.hid hL
  have HHJ := Lib.hid hj
  have HG := Lib.hid hg
  have HY := Lib.hid hY
  have HGL : Hid (∀ k, (Value.slice sa gs.length cap).ownBlock = some k → k < W.heap.size) := Lib.hid fun k e => (World.ownsRow.lt hg k e).2
  clear hL hmk hj hg hY
  go_enter Try.func104, Try.ntmps104
  go_wp2_with (go_at_call 88; refine (rowCount_is ok.h0 ok.h4 ok.hR _).mono ?_; rintro e w' ⟨rfl, rfl⟩)
  refine Code.wp_mono (Q := fun e a w' => e = .normal ∧ ∃ T U B, a = { tmps := #[.func (.yield l) #[] #[], .pointer (some ⟨Bf, 0, none⟩), .pointer (some ⟨Bg, 0, none⟩), .pointer (some ⟨Bn, 0, none⟩), undef, .int .i64 R, .pointer (some ⟨B, 0, none⟩), undef, undef, undef, undef, .pointer (some ⟨Bf, 0, none⟩), .int .i64 m, .int .i64 R, .int .i64 R, .int .i64 L, .slice (some ⟨T, 0, none⟩) L L, .pointer (some ⟨Bf, 0, none⟩), .int .i64 m, .slice (some ⟨U, 0, none⟩) m m, .slice sa gs.length cap, .agg #[.slice (some ⟨T, 0, none⟩) L L, .slice (some ⟨U, 0, none⟩) m m, .slice sa gs.length cap], undef, undef, undef, undef, undef, undef, undef, undef, undef, undef, undef, undef, undef, undef, undef, undef, undef, undef, undef, undef, undef, undef, undef, undef, undef, undef], defers := [] } ∧ (W.heap.size ≤ T ∧ W.heap.size ≤ U ∧ W.heap.size ≤ B ∧ T ≠ U ∧ B ≠ T ∧ B ≠ U) ∧ (w'.heap[T]? = some (.cells (ints (List.replicate L 0)).toArray 2 (0, 0)) ∧ w'.heap[U]? = some (.cells (ints (List.replicate m 0)).toArray 2 (0, 0)) ∧ w'.heap[B]? = some (.cells #[.slice (some ⟨T, 0, none⟩) L L, .slice (some ⟨U, 0, none⟩) m m, .slice sa gs.length cap] 119 (0, 0))) ∧ Below W.heap.size W w') ?rest ?reg
  case reg =>
    go_region
    all_goals
      obtain ⟨h1, h2, h3, hb⟩ := three_laid W _ _ _
      refine ⟨rfl, _, _, _, rfl, ⟨?_, ?_, ?_, ?_, ?_, ?_⟩, ⟨?_, ?_, ?_⟩, hb⟩
      all_goals first | omega | exact h1 | exact h2 | exact h3
  case rest =>
  clear lf0 lfr0 lfl0 lf1 lfr1 lfl1 lf2 lfr2 lfl2 lg0 lgr0 lgl0 lg1 lgr1 lgl1 lg2 lgr2 lgl2 ln0 lnr0 lnl0 ln1 lnr1 lnl1 ln2 lnr2 lnl2
  rintro e a w2 ⟨rfl, T, U, B, rfl, ⟨t1, u1, b1, n1, n2, n3⟩, ⟨hT, hU, hBx⟩, hb⟩
  dsimp only
  have ot := own_laid hT (List.length_replicate (n := L) (a := 0)) (by have := HL.out; omega)
  have ou := own_laid hU (List.length_replicate (n := m) (a := 0)) (by omega)
  obtain ⟨b0, b1', b2⟩ := cells3_laid hBx
  have hj2 := hJ.below HHJ.out hb
  have q0 := kc hb p0
  have q1 := kc hb p1
  have qn := kc hb cn
  have hg2 := HG.out.below hb
  have sT := (World.ownsRow.lt ot T rfl).2
  have sU := (World.ownsRow.lt ou U rfl).2
  have sB : B < w2.heap.size := cell_lt b0
  have hKw : K ≤ w2.heap.size := Nat.le_trans hK hb.size
  clear hT hU hBx p0 p1 cn cg HHJ HG hmkL hmkm
  go_wp2_with fail
  refine (valuesOf_any ok _).mono ?_
  rintro e w3 ⟨s3, rfl, o3, hb3⟩
  replace ot := ot.below hb3
  replace ou := ou.below hb3
  replace b0 := kc hb3 b0
  replace b1' := kc hb3 b1'
  replace b2 := kc hb3 b2
  have hj3 := hJ.below hj2 hb3
  replace q0 := kc hb3 q0
  replace q1 := kc hb3 q1
  replace qn := kc hb3 qn
  have hg3 := hg2.below hb3
  have r0 := ok.r0
  obtain ⟨V, cap3, rfl, hV⟩ : ∃ V cap3, s3 = .slice (some ⟨V, 0, none⟩) R cap3 ∧ w2.heap.size ≤ V := by
    rcases o3.shape with ⟨e, _⟩ | ⟨_, g, c, e, hge, _⟩
    · have := congrArg List.length e; rw [natL_len] at this; simp at this; omega
    · rw [natL_len] at e; exact ⟨g, c, e, hge⟩
  have HO3 := Lib.hid o3
  have HG3 := Lib.hid hg3
  have HOU := Lib.hid ou
  clear hj2 hg2 o3 hg3 ou
  have sz3 := hb3.size
  go_wp2_with fail
  go_loopw [25] (fun k' wr => ∃ k : Nat, k ≤ R ∧ k' = .int .i64 k ∧ Owns wr T (.slice (some ⟨T, 0, none⟩) L L) (setsN (List.replicate L 0) R (fun q => ((bitN x q * 15 : Nat) : Int)) k) ∧ Above (fun k => k ≠ T) w3 wr ∧ J [] wr)
    (fun k' _ => R - (intOf k').toNat)
  case atStart => exact ⟨0, Nat.zero_le _, rfl, ot, Above.refl _ _, hj3⟩
  case round =>
    clear ot hj3
    obtain ⟨k, hk, rfl, hot, hA, hjr⟩ := hrel
    have d0 := cell_above hA (show B ≠ T from n2) b0
    have d1 := cell_above hA (show B ≠ T from n2) b1'
    have d2 := cell_above hA (show B ≠ T from n2) b2
    have dn := cell_above hA (show Bn ≠ T by omega) qn
    have szr := hA.size
    by_cases hlt : k < R
    · have cv : wr.cell? ⟨V, k, none⟩ = some (.int .i64 (bitN x k : Int)) := by
        refine cell_above hA (show V ≠ T by omega) (cell_of_owns HO3.out (by rw [natL_len]) k _ ?_)
        simp [natL, hlt]
      have hlen := setsN_length (List.replicate L 0) R (fun q => ((bitN x q * 15 : Nat) : Int)) k
      rw [List.length_replicate] at hlen
      have hw1 : IntKind.i64.wrap ((R : Int) + (k : Int)) = ((R + k : Nat) : Int) := by rw [wrap64_small (by omega) (by omega)]; push_cast; rfl
      have hRL : R + k < L := by have := HL.out; omega
      obtain ⟨P, hP⟩ : ∃ P, P = R + k := ⟨_, rfl⟩
      rw [← hP] at hw1 hRL
      obtain ⟨u3, c3⟩ : ∃ u, wr.cell? ⟨T, P, none⟩ = some u := by
        have hl : P < (setsN (List.replicate L 0) R (fun q => ((bitN x q * 15 : Nat) : Int)) k).length := by rw [hlen]; exact hRL
        exact ⟨_, cell_of_owns hot (by rw [hlen]) P _ (List.getElem?_eq_getElem hl)⟩
      have f3 : wr.frozen? ⟨T, P, none⟩ = false := by
        exact frozen_own hot hlen.symm P
      have HPR := Lib.hid hP
      have HOT := Lib.hid hot
      have HC := Lib.hid (implConstantOf_yes (n := 2) (R := 4) (by decide) (by decide) (by decide) (by decide) (Lib.hid (by decide)) (by decide) (bitN x k) (bitN_le x k))
      obtain ⟨y, hy⟩ : ∃ y, y = bitN x k * 15 := ⟨_, rfl⟩
      have hv15 : (bitN x k : Int) * allN 2 = (y : Int) := by rw [hy, show allN 2 = 15 by decide]; push_cast; rfl
      have HYY := Lib.hid hy
      clear hy
      clear hP hot
      go_wp2_with (go_at_call 106; refine (HC.out _).mono ?_; rintro e w5 ⟨rfl, hb5⟩; rw [hv15]; have e0 := kc hb5 d0; have e3 := kc hb5 c3; have k3 := kf hb5 c3 f3; have l5 := hb5.size; have lT5 : T < w5.heap.size := cell_lt e3; have lB5 : B < w5.heap.size := cell_lt e0)
      go_roundw
      case rel =>
        refine ⟨k + 1, by omega, by go_num, ?_, ?_, ?_⟩
        · have hst := (owns_set (HOT.out.below hb5) hlen.symm P (y : Int)).below (bnew _ (.cells #[.int .i64 2, .int .i64 (y : Int)] 34))
          have e : (setsN (List.replicate L 0) R (fun q => ((bitN x q * 15 : Nat) : Int)) k).set P (y : Int) = setsN (List.replicate L 0) R (fun q => ((bitN x q * 15 : Nat) : Int)) (k + 1) := by
            rw [setsN, HPR.out, HYY.out]
          rw [e] at hst
          exact hst
        · exact hA.trans ((Above.below hb5).trans ((Above.grown (grownSet w5 T P (.int .i64 (y : Int))) (fun r e h => by cases e; exact h rfl)).trans (Above.below (bnew _ _))))
        · exact hJ.alloc _ (hJ.set T P _ (hJ.below hjr hb5) (by omega))
      case measure => simp [intOf]; omega
    · obtain rfl : k = R := by omega
      have hm : SMem T U L m (setsN (List.replicate L 0) k (fun q => ((bitN x q * 15 : Nat) : Int)) k) (List.replicate m 0) wr :=
        ⟨hot, owns_above HOU.out hA (fun k e => by cases e; exact fun h => n1 h.symm), by rw [setsN_length, List.length_replicate], List.length_replicate⟩
      have hk2 : k = 2 ^ m := by have := ok.he; simpa using this
      have hLm : L = 2 ^ (m + 1) := by rw [HL.out, hk2, Nat.pow_succ, Nat.mul_comm]
      have PA := putFrom_all (v := fun q => bitN x q * 15) (fun q => by have := bitN_le x q; show bitN x q * 15 < 16; omega) l T U K m N L S (.slice sa gs.length cap) gs J Jx hJ
        ⟨hLm, m4, by omega, by omega, n1, kS, fun b e => ⟨gS b e, by have := HGL.out b e; omega, by have := HGL.out b e; omega⟩, g16, gl⟩ HY.out m [] [] _ _ wr
        ⟨by simp, hm, fun q hq => by rw [← hk2] at hq ⊢; exact setsN_in _ _ _ _ _ hq (by rw [List.length_replicate, HL.out]; omega), hjr, by simpa using hN, by omega, owns_above HG3.out hA (fun b e => by have := HGL.out b e; omega)⟩
      have HPA := Lib.hid PA
      clear PA hm hot hjr hk2 hLm
      go_wp2_with (go_at_call 107; refine HPA.out.mono ?_; rintro e w9 (⟨rfl, _, _, hj9⟩ | ⟨rfl, q, hqp, hq9⟩))
      · go_end0
        exact ⟨⟨_, rfl⟩, .inl ⟨_, hj9⟩⟩
      · go_end0
        exact ⟨⟨_, rfl⟩, .inr ⟨_, q, hqp, by simpa using hq9⟩⟩
end Go.Proofs.Ytlohldddioikaaa

/- D1:
  A variable fixed: the program's closure. -/
namespace Go.Proofs.Ytlohldddioikaaa
open Go.RowKit

/-- Where the row r of the lesser arity lies in the greater one, the variable i being v. -/
def insN (i v r : Nat) : Nat := ((r - r % 2 ^ i) * 2 ||| v <<< i) ||| r % 2 ^ i
/-- The function with the variable i fixed to v. -/
def fixN (n : Int) (x i v : Nat) : Nat := sumN (fun r => bitN x (insN i v r)) (2 ^ (n.toNat - 1))

theorem insN_lt (i v r : Nat) (hi : i < 4) (hv : v ≤ 1) (hr : r < 8) : insN i v r < 2 ^ 4 := by
  have h1 : v <<< i < 2 ^ 4 := by
    rw [Nat.shiftLeft_eq]
    have h3 : (2 : Nat) ^ i ≤ 2 ^ 3 := Nat.pow_le_pow_right (by decide) (by omega)
    have h4 : v * 2 ^ i ≤ 1 * 2 ^ i := Nat.mul_le_mul_right _ hv
    omega
  have h2 : r % 2 ^ i ≤ r := Nat.mod_le _ _
  exact Nat.or_lt_two_pow (Nat.or_lt_two_pow (by omega) h1) (by omega)

theorem ins_eq (i v r q : Nat) (hi : i < 4) (hv : v ≤ 1) (hr : r < 8) (hq : r % 2 ^ i = q) :
    bits .or .i64 (bits .or .i64 (IntKind.i64.wrap (((r : Int) - (q : Int)) * 2)) (IntKind.i64.wrap ((v : Int) * 2 ^ i))) (q : Int) = (insN i v r : Int) := by
  have h2 : q ≤ r := by rw [← hq]; exact Nat.mod_le _ _
  obtain ⟨e, h⟩ := shl_nat v i hv (by omega)
  have e1 : IntKind.i64.wrap (((r : Int) - (q : Int)) * 2) = (((r - q) * 2 : Nat) : Int) := by
    rw [wrap64_small (by omega) (by omega)]; omega
  have h1 : v <<< i < 2 ^ 4 := by
    rw [Nat.shiftLeft_eq]
    have h3 : (2 : Nat) ^ i ≤ 2 ^ 3 := Nat.pow_le_pow_right (by decide) (by omega)
    have h4 : v * 2 ^ i ≤ 1 * 2 ^ i := Nat.mul_le_mul_right _ hv
    omega
  have h5 : (r - q) * 2 ||| v <<< i < 2 ^ 4 := Nat.or_lt_two_pow (by omega) h1
  rw [e, e1, bits_or_nat _ _ (by omega) h, bits_or_nat _ _ (by omega) (by omega)]
  unfold insN
  rw [hq]

theorem FOk.lesser {n : Int} {x R : Nat} (ok : FOk n x R) (h1 : 1 ≤ n) : 0 < 2 ^ (n.toNat - 1) ∧ 2 ^ (n.toNat - 1) ≤ 8 ∧ Hid (rowsN (n - 1) = ((2 ^ (n.toNat - 1) : Nat) : Int)) := by
  have h4 := ok.h4
  refine ⟨Nat.two_pow_pos _, Nat.pow_le_pow_right (n := 2) (j := 3) (by decide) (by omega), Lib.hid ?_⟩
  show (2 : Int) ^ (n - 1).toNat = _
  rw [show (n - 1).toNat = n.toNat - 1 by omega]; push_cast; rfl

end Go.Proofs.Ytlohldddioikaaa

/- K1:
  The five classes of Post as plain words: what the model asks and what the program asks are the same. -/
namespace Go.Proofs.Ytlohldddioikaaa

theorem bitN_sum (v : Nat → Nat) (k : Nat) (hv : ∀ r, r < k → v r ≤ 1) (r : Nat) (hr : r < k) : bitN (sumN v k) r = v r := by
  induction k with
  | zero => omega
  | succ k ih =>
    have h1 := sumN_lt v k (fun r hr => hv r (by omega))
    have h2 := hv k (by omega)
    simp only [sumN]
    by_cases e : r = k
    · subst e
      unfold bitN
      rw [Nat.add_mul_div_right _ _ (Nat.two_pow_pos _), Nat.div_eq_of_lt h1]
      omega
    · have h3 := ih (fun r hr => hv r (by omega)) (by omega)
      rw [← h3]
      unfold bitN
      have e2 : v k * 2 ^ k = (v k * 2 ^ (k - r - 1) * 2) * 2 ^ r := by
        rw [Nat.mul_assoc, Nat.mul_assoc, ← Nat.pow_succ', ← Nat.pow_add]
        congr 2
        omega
      rw [e2, Nat.add_mul_div_right _ _ (Nat.two_pow_pos _)]
      omega

/-- A number below 2 ^ k is told by its digits. -/
theorem sum_is (v : Nat → Nat) (k x : Nat) (hv : ∀ r, r < k → v r ≤ 1) (hx : x < 2 ^ k) : sumN v k = x ↔ ∀ r, r < k → v r = bitN x r := by
  constructor
  · rintro rfl r hr
    exact (bitN_sum v k hv r hr).symm
  · intro h
    rw [sumN_congr k h, sumN_bits, Nat.mod_eq_of_lt hx]

/- the classes -/
def allLt (k : Nat) (p : Nat → Bool) : Bool := (List.range k).all p
theorem allLt_iff {k : Nat} {p : Nat → Bool} : allLt k p = true ↔ ∀ r, r < k → p r = true := by simp [allLt]
theorem allLt_zero (p : Nat → Bool) : allLt 0 p = true := rfl
theorem allLt_succ (k : Nat) (p : Nat → Bool) : allLt (k + 1) p = (allLt k p && p k) := by simp [allLt, List.range_succ]

def cls0 (x : Nat) : Bool := bitN x 0 == 0
def cls1 (x R : Nat) : Bool := bitN x (R - 1) == 1
def cls2 (x R : Nat) : Bool := allLt R fun i => bitN x i != bitN x (R - 1 - i)
/-- no fall at the row i by the variable v -/
def up1 (x i v : Nat) : Bool := !(bitN i v == 0 && bitN x i == 1 && bitN x (i ||| 2 ^ v) == 0)
def cls3 (n x R : Nat) : Bool := allLt R fun i => allLt n fun v => up1 x i v
def alt1 (x v i : Nat) : Bool := (bitN x i != bitN x (i ^^^ 2 ^ v)) == (bitN x 0 != bitN x (2 ^ v))
def cls4 (n x R : Nat) : Bool := allLt n fun v => allLt R fun i => alt1 x v i

theorem cls2_is {x R : Nat} (hx : x < 2 ^ R) : (sumN (fun r => 1 - bitN x (R - 1 - r)) R == x) = cls2 x R := by
  rw [Bool.eq_iff_iff, beq_iff_eq, sum_is _ _ _ (fun r _ => by omega) hx, cls2, allLt_iff]
  constructor
  · intro h r hr
    have h1 := h r hr
    have h2 := bitN_le x r
    have h3 := bitN_le x (R - 1 - r)
    have : bitN x r ≠ bitN x (R - 1 - r) := by omega
    simpa using this
  · intro h r hr
    have h1 : bitN x r ≠ bitN x (R - 1 - r) := by simpa using h r hr
    have h2 := bitN_le x r
    have h3 := bitN_le x (R - 1 - r)
    show 1 - bitN x (R - 1 - r) = bitN x r
    omega

/- monotone -/
theorem ins_rows : ∀ n < 5, ∀ i < n, ∀ r < 2 ^ (n - 1), insN i 0 r < 2 ^ n ∧ bitN (insN i 0 r) i = 0 ∧ insN i 1 r = insN i 0 r ||| 2 ^ i := by decide +kernel
theorem ins_onto : ∀ n < 5, ∀ i < n, ∀ q < 2 ^ n, bitN q i = 0 → ∃ r, r < 2 ^ (n - 1) ∧ insN i 0 r = q := by decide +kernel

/-- What the program asks: no digit that the half at 0 has and the half at 1 has not. -/
def noFall (n : Int) (x i : Nat) : Bool := allLt (2 ^ (n.toNat - 1)) fun r => !(bitN (fixN n x i 0) r == 1 && bitN (fixN n x i 1) r == 0)

theorem noFall_iff {n x i : Nat} (hn : n < 5) (hi : i < n) : noFall n x i = true ↔ ∀ q, q < 2 ^ n → up1 x q i = true := by
  unfold noFall
  rw [allLt_iff]
  simp only [Int.toNat_natCast]
  have hb : ∀ v r, r < 2 ^ (n - 1) → bitN (fixN n x i v) r = bitN x (insN i v r) := fun v r hr => by
    unfold fixN
    simp only [Int.toNat_natCast]
    exact bitN_sum _ _ (fun r _ => bitN_le _ _) r hr
  constructor
  · intro h q hq
    unfold up1
    by_cases h0 : bitN q i = 0
    · obtain ⟨r, hr, e⟩ := ins_onto n hn i hi q hq h0
      have h1 := h r hr
      rw [hb 0 r hr, hb 1 r hr, (ins_rows n hn i hi r hr).2.2, e] at h1
      simpa [h0] using h1
    · simp [h0]
  · intro h r hr
    obtain ⟨h1, h2, h3⟩ := ins_rows n hn i hi r hr
    have := h _ h1
    unfold up1 at this
    rw [h2] at this
    rw [hb 0 r hr, hb 1 r hr, h3]
    simpa using this

theorem cls3_is {n x : Nat} (hn : n < 5) : cls3 n x (2 ^ n) = allLt n fun i => noFall n x i := by
  rw [Bool.eq_iff_iff, cls3, allLt_iff, allLt_iff]
  constructor
  · intro h i hi
    rw [noFall_iff hn hi]
    intro q hq
    exact allLt_iff.1 (h q hq) i hi
  · intro h q hq
    rw [allLt_iff]
    intro i hi
    exact (noFall_iff hn hi).1 (h i hi) q hq

/- affine -/
def xorN (a b : Nat) : Nat := (a + b) % 2
/-- the value at a row of the affine function with c and d -/
def affV (d : Nat → Nat) (c : Nat) (r : Nat) : Nat → Nat
  | 0 => c
  | i + 1 => xorN (affV d c r i) (bitN r i * d i)
theorem affV_le (d : Nat → Nat) (c r : Nat) (hc : c ≤ 1) (k : Nat) : affV d c r k ≤ 1 := by
  cases k with
  | zero => exact hc
  | succ k => simp only [affV, xorN]; omega
def difN (x v : Nat) : Nat := xorN (bitN x 0) (bitN x (2 ^ v))
def affN (n x : Nat) : Nat := sumN (fun r => affV (difN x) (bitN x 0) r n) (2 ^ n)

theorem affV_congr (d e : Nat → Nat) (c r k : Nat) (h : ∀ i, i < k → d i = e i) : affV d c r k = affV e c r k := by
  induction k with
  | zero => rfl
  | succ k ih => simp only [affV]; rw [ih (fun i hi => h i (by omega)), h k (by omega)]

theorem aff_step : ∀ n < 5, ∀ v < n, ∀ i < 2 ^ n, ∀ m < 32, affV (bitN m) (bitN m 4) (i ^^^ 2 ^ v) n = xorN (affV (bitN m) (bitN m 4) i n) (bitN m v) ∧ i ^^^ 2 ^ v < 2 ^ n := by decide +kernel
theorem aff_down : ∀ n < 5, ∀ i < 2 ^ n, 0 < i → ∃ v, v < n ∧ i ^^^ 2 ^ v < i ∧ i ^^^ 2 ^ v ^^^ 2 ^ v = i := by decide +kernel
theorem aff_zero : ∀ n < 5, ∀ m < 32, affV (bitN m) (bitN m 4) 0 n = bitN m 4 := by decide +kernel

theorem difN_lt (x v : Nat) : difN x v ≤ 1 := by unfold difN xorN; omega
/-- Five digits as one number. -/
theorem five_bits (d : Nat → Nat) (c : Nat) (hd : ∀ i, d i ≤ 1) (hc : c ≤ 1) : ∃ m, m < 32 ∧ bitN m 4 = c ∧ ∀ i, i < 4 → bitN m i = d i := by
  have hv : ∀ r, r < 5 → (fun i => if i = 4 then c else d i) r ≤ 1 := fun r _ => by
    show (if r = 4 then c else d r) ≤ 1
    split
    · exact hc
    · exact hd r
  refine ⟨sumN (fun i => if i = 4 then c else d i) 5, sumN_lt _ 5 hv, ?_, fun i hi => ?_⟩
  · rw [bitN_sum _ 5 hv 4 (by omega)]; rfl
  · rw [bitN_sum _ 5 hv i (by omega)]
    show (if i = 4 then c else d i) = d i
    rw [if_neg (by omega)]
theorem affV_step {n : Nat} (hn : n < 5) (x c : Nat) (hc : c ≤ 1) (v i : Nat) (hv : v < n) (hi : i < 2 ^ n) : affV (difN x) c (i ^^^ 2 ^ v) n = xorN (affV (difN x) c i n) (difN x v) ∧ i ^^^ 2 ^ v < 2 ^ n := by
  obtain ⟨m, hm, rfl, hd⟩ := five_bits (difN x) c (difN_lt x) hc
  have h := aff_step n hn v hv i hi m hm
  rw [affV_congr _ (difN x) _ _ n (fun i hi => hd i (by omega)), affV_congr _ (difN x) _ _ n (fun i hi => hd i (by omega)), hd v (by omega)] at h
  exact h
theorem affV_zero {n : Nat} (hn : n < 5) (x c : Nat) (hc : c ≤ 1) : affV (difN x) c 0 n = c := by
  obtain ⟨m, hm, rfl, hd⟩ := five_bits (difN x) c (difN_lt x) hc
  have h := aff_zero n hn m hm
  rwa [affV_congr _ (difN x) _ _ n (fun i hi => hd i (by omega))] at h

theorem alt1_iff (x v i : Nat) : alt1 x v i = true ↔ bitN x (i ^^^ 2 ^ v) = xorN (bitN x i) (difN x v) := by
  have h1 := bitN_le x i
  have h2 := bitN_le x (i ^^^ 2 ^ v)
  have h3 := bitN_le x 0
  have h4 := bitN_le x (2 ^ v)
  unfold alt1 difN xorN
  generalize bitN x i = a at *
  generalize bitN x (i ^^^ 2 ^ v) = b at *
  generalize bitN x 0 = c at *
  generalize bitN x (2 ^ v) = d at *
  have : ∀ a < 2, ∀ b < 2, ∀ c < 2, ∀ d < 2, ((a != b) == (c != d)) = true ↔ b = (a + (c + d) % 2) % 2 := by decide
  exact this a (by omega) b (by omega) c (by omega) d (by omega)

theorem cls4_is {n x : Nat} (hn : n < 5) (hx : x < 2 ^ 2 ^ n) : (affN n x == x) = cls4 n x (2 ^ n) := by
  have h0 := bitN_le x 0
  rw [Bool.eq_iff_iff, beq_iff_eq, affN, sum_is _ _ _ (fun r _ => affV_le _ _ _ h0 n) hx, cls4, allLt_iff]
  constructor
  · intro h v hv
    rw [allLt_iff]
    intro i hi
    obtain ⟨h1, h2⟩ := affV_step hn x (bitN x 0) (by omega) v i hv hi
    rw [alt1_iff, ← h i hi, ← h _ h2, h1]
  · intro h r
    have hs : ∀ v, v < n → ∀ i, i < 2 ^ n → bitN x (i ^^^ 2 ^ v) = xorN (bitN x i) (difN x v) := fun v hv i hi => (alt1_iff x v i).1 (allLt_iff.1 (h v hv) i hi)
    clear h
    induction r using Nat.strongRecOn with
    | _ r ih =>
      intro hr
      by_cases hz : r = 0
      · subst hz
        exact affV_zero hn x _ (by omega)
      · obtain ⟨v, hv, hlt, hb⟩ := aff_down n hn r hr (by omega)
        have h1 := ih _ hlt (by omega)
        obtain ⟨h2, h3⟩ := affV_step hn x (bitN x 0) (by omega) v (r ^^^ 2 ^ v) hv (by omega)
        have h4 := hs v hv (r ^^^ 2 ^ v) (by omega)
        rw [hb] at h2 h4
        rw [h2, h1, h4]
end Go.Proofs.Ytlohldddioikaaa

/- K2:
  Small facts on digits and the tests of classes of the program: monotone, and the affine function with the same values. -/
namespace Go.Proofs.Ytlohldddioikaaa
open Go.RowKit

theorem bitN_test (x i : Nat) : x.testBit i = (bitN x i == 1) := by
  rw [Nat.testBit_eq_decide_div_mod_eq, bitN]
  by_cases h : x / 2 ^ i % 2 = 1 <;> simp [h]

/-- 'a &^ b' is 0 just where no digit of a lacks in b. -/
theorem andNot_no (Z a b : Nat) (hZ : Z ≤ 16) (ha : a < 2 ^ Z) : (bits .andNot .i64 (a : Int) (b : Int) != 0) = !(allLt Z fun r => !(bitN a r == 1 && bitN b r == 0)) := by
  have hz : (2 : Nat) ^ Z ≤ 2 ^ 16 := Nat.pow_le_pow_right (by decide) hZ
  have h64 : (2 : Nat) ^ 16 < 2 ^ 64 := by decide
  have hbit : ∀ i, (BitVec.ofNat 64 a &&& ~~~(BitVec.ofNat 64 b)).toNat.testBit i = (bitN a i == 1 && bitN b i == 0) := by
    intro i
    rw [BitVec.testBit_toNat, BitVec.getLsbD_and, BitVec.getLsbD_not, BitVec.getLsbD_ofNat, BitVec.getLsbD_ofNat]
    by_cases hi : i < 64
    · have h2 := bitN_le b i
      rw [bitN_test, bitN_test]
      simp only [hi, decide_true, Bool.true_and]
      congr 1
      by_cases h : bitN b i = 1
      · simp [h]
      · have : bitN b i = 0 := by omega
        simp [this]
    · have h64i : (2 : Nat) ^ 64 ≤ 2 ^ i := Nat.pow_le_pow_right (by decide) (by omega)
      have : bitN a i = 0 := by unfold bitN; rw [Nat.div_eq_of_lt (by omega)]
      simp [hi, this]
  have hle : (BitVec.ofNat 64 a &&& ~~~(BitVec.ofNat 64 b)).toNat ≤ a := by
    rw [BitVec.toNat_and, BitVec.toNat_ofNat, Nat.mod_eq_of_lt (by omega)]
    exact Nat.and_le_left
  have e : bits .andNot .i64 (a : Int) (b : Int) = (((BitVec.ofNat 64 a &&& ~~~(BitVec.ofNat 64 b)).toNat : Nat) : Int) := by
    show IntKind.i64.wrap ((BitVec.ofInt 64 (a : Int) &&& ~~~(BitVec.ofInt 64 (b : Int))).toNat : Int) = _
    rw [BitVec.ofInt_natCast, BitVec.ofInt_natCast]
    exact wrap64_small (by omega) (by omega)
  rw [e]
  generalize (BitVec.ofNat 64 a &&& ~~~(BitVec.ofNat 64 b)).toNat = t at *
  rw [Bool.eq_iff_iff]
  constructor
  · intro h
    have ht : t ≠ 0 := by
      intro e0
      subst e0
      simp at h
    obtain ⟨i, hi⟩ := Nat.exists_testBit_of_ne_zero ht
    rw [hbit] at hi
    have hiZ : i < Z := by
      apply Decidable.byContradiction
      intro hc
      have h1 : (2 : Nat) ^ Z ≤ 2 ^ i := Nat.pow_le_pow_right (by decide) (by omega)
      have : bitN a i = 0 := by unfold bitN; rw [Nat.div_eq_of_lt (by omega)]
      simp [this] at hi
    cases hall : allLt Z fun r => !(bitN a r == 1 && bitN b r == 0)
    · rfl
    · have := allLt_iff.1 hall i hiZ
      rw [hi] at this
      cases this
  · intro h
    have ht : t ≠ 0 := by
      intro e0
      subst e0
      have : (allLt Z fun r => !(bitN a r == 1 && bitN b r == 0)) = true := allLt_iff.2 fun r _ => by rw [← hbit]; simp
      rw [this] at h
      cases h
    simp [ht]

theorem FOk.nn {n : Int} {x R : Nat} (ok : FOk n x R) : n = (n.toNat : Int) := by have := ok.h0; omega

theorem fixN_lt (n : Int) (x i v : Nat) : fixN n x i v < 2 ^ 2 ^ (n.toNat - 1) := sumN_lt _ _ (fun _ _ => bitN_le _ _)

/-- What the program asks at a variable. -/
theorem noFall_is {n : Int} {x R : Nat} (ok : FOk n x R) (h1 : 1 ≤ n) (i : Nat) : (bits .andNot .i64 (fixN n x i 0 : Int) (fixN n x i 1 : Int) != 0) = !noFall n x i := by
  obtain ⟨_, z8, _⟩ := ok.lesser h1
  exact andNot_no _ _ _ (by omega) (fixN_lt n x i 0)

theorem xor_01 (a b : Nat) (ha : a ≤ 1) (hb : b ≤ 1) : bits .xor .i64 (a : Int) (b : Int) = (xorN a b : Int) := by
  obtain rfl | rfl : a = 0 ∨ a = 1 := by omega
  all_goals obtain rfl | rfl : b = 0 ∨ b = 1 := by omega
  all_goals decide
theorem and_01 (a b : Nat) (ha : a ≤ 1) (hb : b ≤ 1) : bits .and .i64 (a : Int) (b : Int) = ((a * b : Nat) : Int) := by
  obtain rfl | rfl : a = 0 ∨ a = 1 := by omega
  all_goals obtain rfl | rfl : b = 0 ∨ b = 1 := by omega
  all_goals decide
theorem xorN_le (a b : Nat) : xorN a b ≤ 1 := by unfold xorN; omega

theorem aff_round (x r k : Nat) : bits .xor .i64 (affV (difN x) (bitN x 0) r k : Int) (bits .and .i64 (bitN r k : Int) (bits .xor .i64 (bitN x 0 : Int) (bitN x (2 ^ k) : Int))) = (affV (difN x) (bitN x 0) r (k + 1) : Int) := by
  have h1 := bitN_le r k
  have h2 := difN_lt x k
  have h3 : bitN r k * difN x k ≤ 1 := by
    have := Nat.mul_le_mul h1 h2
    omega
  rw [xor_01 _ _ (bitN_le x 0) (bitN_le x _)]
  show bits .xor .i64 _ (bits .and .i64 (bitN r k : Int) (difN x k : Int)) = _
  rw [and_01 _ _ h1 h2, xor_01 _ _ (affV_le _ _ _ (bitN_le x 0) k) h3]
  rfl

end Go.Proofs.Ytlohldddioikaaa

/- K3:
  The tests of classes of the program: isMonotone, affineLike. -/
namespace Go.Proofs.Ytlohldddioikaaa
open Go.RowKit

theorem step_held2 {W w' w : World} {a b : Addr} {u v : Value} (hb : Below W.heap.size W w') (h : (W.cell? a = some u ∧ W.cell? b = some v) ∧ Below w.heap.size w W) :
    (w'.cell? a = some u ∧ w'.cell? b = some v) ∧ Below w.heap.size w w' := ⟨⟨kc hb h.1.1, kc hb h.1.2⟩, bthen h.2 hb⟩

theorem field1 (a b : Value) (w : World) : (Instr.field 34 (.agg #[a, b]) 1).run Try.prog w = .ok b w := by kernel_rfl

/-- All variables below k: no fall. -/
def monoTo (n : Int) (x k : Nat) : Bool := allLt k fun i => noFall n x i
theorem monoTo_zero (n : Int) (x : Nat) : monoTo n x 0 = true := rfl
theorem monoTo_succ (n : Int) (x k : Nat) : monoTo n x (k + 1) = (monoTo n x k && noFall n x k) := allLt_succ _ _
theorem monoTo_false {n : Int} {x k m : Nat} (hk : k < m) (h : noFall n x k = false) : monoTo n x m = false := by
  cases hc : monoTo n x m
  · rfl
  · have := allLt_iff.1 hc k hk
    rw [h] at this
    cases this
theorem FOk.mono {n : Int} {x R : Nat} (ok : FOk n x R) : cls3 n.toNat x R = monoTo n x n.toNat := by
  have h4 := ok.h4
  rw [ok.he, cls3_is (by omega), ← ok.nn]
  rfl

end Go.Proofs.Ytlohldddioikaaa

/- K4:
  The affine function with the same values: affineLike. -/
namespace Go.Proofs.Ytlohldddioikaaa
open Go.RowKit

theorem shl_one (k : Nat) (hk : k < 16) : IntKind.i64.wrap (2 ^ k) = ((2 ^ k : Nat) : Int) := by
  have h1 : (2 : Nat) ^ k < 2 ^ 16 := Nat.pow_lt_pow_right (by decide) hk
  have e : (2 : Int) ^ k = ((2 ^ k : Nat) : Int) := by push_cast; rfl
  rw [e]
  generalize (2 : Nat) ^ k = q at h1
  exact wrap64_small (by omega) (by omega)

theorem step_held3 {W w' w : World} {a b c : Addr} {u v z : Value} (hb : Below W.heap.size W w') (h : ((W.cell? a = some u ∧ W.cell? b = some v) ∧ W.cell? c = some z) ∧ Below w.heap.size w W) :
    ((w'.cell? a = some u ∧ w'.cell? b = some v) ∧ w'.cell? c = some z) ∧ Below w.heap.size w w' := ⟨⟨⟨kc hb h.1.1.1, kc hb h.1.1.2⟩, kc hb h.1.2⟩, bthen h.2 hb⟩

theorem valueInRow_zero (n : Int) (x : Nat) (hx : x < 2 ^ 62) (w : World) :
    Calls Try.prog 79 #[.agg #[.int .i64 n, .int .i64 (x : Int)], .int .i64 0] w fun e w' => e = .returned (.int .i64 (bitN x 0 : Int)) ∧ Below w.heap.size w w' := valueInRow_any n x 0 hx (by omega) w

end Go.Proofs.Ytlohldddioikaaa

/- K5:
  isInClass, class by class. -/
namespace Go.Proofs.Ytlohldddioikaaa
open Go.RowKit

theorem ret_bool {a b : Bool} (h : a = b) : Ending.returned (.bool a) = .returned (.bool b) := by rw [h]

theorem valueInRow_last {n : Int} {x R : Nat} (ok : FOk n x R) (w : World) :
    Calls Try.prog 79 #[.agg #[.int .i64 n, .int .i64 (x : Int)], .int .i64 ((R : Int) - 1)] w fun e w' => e = .returned (.int .i64 (bitN x (R - 1) : Int)) ∧ Below w.heap.size w w' := by
  have r0 := ok.r0
  have r16 := ok.r16
  rw [show (R : Int) - 1 = ((R - 1 : Nat) : Int) by omega]
  exact valueInRow_any n x (R - 1) ok.hx (by omega) w

end Go.Proofs.Ytlohldddioikaaa

/- K6:
  The classes of a function by number; isSheffer, classSetOf and IsInClass of the program. -/
namespace Go.Proofs.Ytlohldddioikaaa
open Go.RowKit

/-- Whether a function is in the class k. -/
def clsN (n x R k : Nat) : Bool := match k with
  | 0 => cls0 x
  | 1 => cls1 x R
  | 2 => cls2 x R
  | 3 => cls3 n x R
  | _ => cls4 n x R

/-- In none of the classes below k. -/
def noneTo (n x R k : Nat) : Bool := allLt k fun j => !clsN n x R j
theorem noneTo_succ (n x R k : Nat) : noneTo n x R (k + 1) = (noneTo n x R k && !clsN n x R k) := allLt_succ _ _
theorem noneTo_false {n x R k m : Nat} (hk : k < m) (h : clsN n x R k = true) : noneTo n x R m = false := by
  cases hc : noneTo n x R m
  · rfl
  · have := allLt_iff.1 hc k hk
    rw [h] at this
    cases this

/-- The classes as digits. -/
def clsV (n x R k : Nat) : Nat := (clsN n x R k).toNat
theorem clsV_le (n x R k : Nat) : clsV n x R k ≤ 1 := by unfold clsV; cases clsN n x R k <;> decide
def setN (n x R : Nat) : Nat := sumN (clsV n x R) 5
theorem set_step (v : Nat → Nat) (k : Nat) (hk : k < 16) (hv : ∀ r, r < k → v r ≤ 1) (h1 : v k = 1) : bits .or .i64 (sumN v k : Int) (wrap64 (2 ^ k)) = (sumN v (k + 1) : Int) := by
  have e : (2 : Int) ^ k = ((2 ^ k : Nat) : Int) := by push_cast; rfl
  have hlt := sumN_lt v k hv
  have hp : (2 : Nat) ^ k < 2 ^ 16 := Nat.pow_lt_pow_right (by decide) hk
  rw [e, IntWalk.wrap64_in _ ⟨by omega, by omega⟩, bits_or_nat _ _ (by omega) (by omega), Nat.or_comm, show (2 : Nat) ^ k = 1 <<< k by rw [Nat.shiftLeft_eq, Nat.one_mul], ← Nat.shiftLeft_add_eq_or_of_lt hlt, Nat.shiftLeft_eq]
  simp only [sumN, h1]
  omega

end Go.Proofs.Ytlohldddioikaaa

/- CT1:
  The functions of an arity as a function that is ranged over, and their count by whatever closure. -/
namespace Go.Proofs.Ytlohldddioikaaa
open Go.RowKit Go.Shelf
attribute [local go_sem] Oper.semAt_some

/-- A function as it is handed out. -/
def encFunc {T : Nat} (m : Int) (x : Row T) : Array Value := #[.agg #[.int .i64 m, .int .i64 (x.1 : Int)]]

theorem shl_T (R T : Nat) (hT : T = 2 ^ R) (h16 : T ≤ 65536) : wrap64 (2 ^ R) = (T : Int) := by
  have e : (2 : Int) ^ R = (T : Int) := by rw [hT]; push_cast; rfl
  rw [e]
  exact IntWalk.wrap64_in _ ⟨by omega, by omega⟩

/-- The cell of the box B stays. -/
def Stays (B : Nat) (n₀ : Nat) (A C : World) : Prop := Below n₀ A C ∧ ∀ v, A.cell? ⟨B, 0, none⟩ = some v → C.cell? ⟨B, 0, none⟩ = some v

set_option maxRecDepth 100000 in
set_option maxHeartbeats 1000000 in
theorem funcs1_in (n : Nat) (hn : 1 ≤ n) (l Bn n₀ : Nat) (m : Int) (R T : Nat) (h0 : 0 ≤ m) (h4 : m ≤ 4) (hR0 : 0 < R) (hR16 : R ≤ 16) (hR : Hid (rowsN m = (R : Int))) (hT : T = 2 ^ R) (hT0 : 0 < T) (hT16 : T ≤ 65536) (J Jx : List (Row T) → World → Prop)
    (hY : ∀ pre x W, J pre W → pre.length < T → YieldAt Fence.wide (n - 1) Try.prog l (encFunc m x) W fun e W' =>
      (e = .returned (.bool true) ∧ J (pre ++ [x]) W' ∧ Stays Bn n₀ W W') ∨ (e = .returned (.bool false) ∧ Jx (pre ++ [x]) W'))
    (W : World) (hBn : W.cell? ⟨Bn, 0, none⟩ = some (.int .i64 m)) (hj : J [] W) :
    CallsIn Fence.wide n Try.prog 91 #[.func (.yield l) #[] #[], .pointer (some ⟨Bn, 0, none⟩)] W fun e W' => (∃ v, e = .returned v) ∧
      ((∃ ys, ys = upto hT0 T ∧ J ys W') ∨ (∃ pre, True ∧ Jx pre W')) := by
  have hs := Lib.hid (shl_T R T hT hT16)
  clear hT
  refine callsIn_of_wp Try.func91 rfl trivial ?_ rfl
  simp only [Try.ntmps91, List.size_toArray, List.length_cons, List.length_nil, Nat.reduceAdd, Nat.reduceSub, Array.replicate_succ, Array.replicate_zero, List.push_toArray, List.append_toArray, List.nil_append, List.cons_append]
  gi_wp2_with (refine ⟨trivial, ?_⟩; gi_at_call 88; refine (callsIn_wide.2 (rowCount_is h0 h4 hR _)).mono ?_; rintro e w' ⟨rfl, rfl⟩)
  rw [hs.out]
  gi_loopw [7] (fun i wr => ∃ k : Nat, k ≤ T ∧ i = .int .i64 k ∧ J (upto hT0 k) wr ∧ wr.cell? ⟨Bn, 0, none⟩ = some (.int .i64 m))
    (fun i _ => T - (intOf i).toNat)
  case atStart => exact ⟨0, Nat.zero_le _, rfl, hj, hBn⟩
  case round =>
    clear hBn
    obtain ⟨k, hk, rfl, hJs, hBn⟩ := hrel
    by_cases hlt : k < T
    · obtain ⟨fn, tmps, assign, body, hy, hRd⟩ := hY _ (rowAt hT0 k) wr hJs (by rw [upto_length]; exact hlt)
      unfold encFunc at hy
      rw [rowAt_val hT0 hlt] at hy
      gi_wp2
      refine hRd.mono ?_
      rintro e W3 (⟨rfl, hJ3, hk3⟩ | ⟨rfl, hJx3⟩)
      · have hBn3 := hk3.2 _ hBn
        gi_wp2
        go_roundw
        case rel => exact ⟨k + 1, by omega, by simp, by rw [upto_succ]; exact hJ3, hBn3⟩
        case measure => simp [intOf]; omega
      · gi_wp2
        refine bodyPost_ret (results_none rfl _ _ _) rfl ?_
        exact ⟨⟨_, rfl⟩, .inr ⟨_, trivial, hJx3⟩⟩
    · obtain rfl : k = T := by omega
      gi_wp2
      go_end0
      exact ⟨⟨_, rfl⟩, .inl ⟨_, rfl, hJs⟩⟩

theorem funcs_stops (n : Nat) (hn : 1 ≤ n) (Bn n₀ : Nat) (m : Int) (R T : Nat) (h0 : 0 ≤ m) (h4 : m ≤ 4) (hR0 : 0 < R) (hR16 : R ≤ 16) (hR : Hid (rowsN m = (R : Int))) (hT : T = 2 ^ R) (hT0 : 0 < T) (hT16 : T ≤ 65536) (w : World)
    (hc : w.cell? ⟨Bn, 0, none⟩ = some (.int .i64 m)) :
    SeqStopsK Fence.wide n Try.prog 91 #[.pointer (some ⟨Bn, 0, none⟩)] (encFunc (T := T) m) (Stays Bn n₀) (fun ys => ys = upto hT0 T) (fun _ => True) T w := fun l J Jx W hW _ _ hY hj =>
  funcs1_in n hn l Bn n₀ m R T h0 h4 hR0 hR16 hR hT hT0 hT16 J Jx hY W ((hW.cell (p := ⟨Bn, 0, none⟩) (cell_lt hc)).trans hc) hj

set_option maxHeartbeats 1000000 in
theorem funcsOfArity_any (m : Int) (w : World) :
    Calls Try.prog 66 #[.int .i64 m] w fun e w' => e = .returned (.func (.func 91) #[] #[.pointer (some ⟨w.heap.size, 0, none⟩)]) ∧ w' = w.alloc (.cells #[.int .i64 m] 2) := by
  go_enter Try.func66, Try.ntmps66
  go_wp2
  go_ret
  exact ⟨rfl, rfl⟩
end Go.Proofs.Ytlohldddioikaaa

/- CT2:
  countFuncs by contract, for whatever closure. -/
namespace Go.Proofs.Ytlohldddioikaaa
open Go.RowKit Go.Shelf
attribute [local go_sem] Oper.semAt_some

/-- How many of the functions handed out so far hold. -/
def cntF {T : Nat} (p : Nat → Bool) (pre : List (Row T)) : Nat := pre.countP fun x => p x.1
theorem cntF_snoc {T : Nat} (p : Nat → Bool) (pre : List (Row T)) (x : Row T) : cntF p (pre ++ [x]) = cntF p pre + (p x.1).toNat := by
  unfold cntF
  rw [List.countP_append, List.countP_cons, List.countP_nil]
  cases p x.1 <;> rfl
theorem cntF_le {T : Nat} (p : Nat → Bool) (pre : List (Row T)) : cntF p pre ≤ pre.length := List.countP_le_length
/-- .. of the numbers below k. -/
def cntTo (p : Nat → Bool) (k : Nat) : Nat := (List.range k).countP p
theorem cntTo_succ (p : Nat → Bool) (k : Nat) : cntTo p (k + 1) = cntTo p k + (p k).toNat := by
  unfold cntTo
  rw [List.range_succ, List.countP_append, List.countP_cons, List.countP_nil]
  cases p k <;> rfl
theorem cntTo_le (p : Nat → Bool) (k : Nat) : cntTo p k ≤ k := by
  have := List.countP_le_length (p := p) (l := List.range k)
  rw [List.length_range] at this
  exact this
theorem cntF_upto {T : Nat} (hT : 0 < T) (p : Nat → Bool) (k : Nat) (hk : k ≤ T) : cntF p (upto hT k) = cntTo p k := by
  induction k with
  | zero => rfl
  | succ k ih => rw [upto_succ, cntF_snoc, ih (by omega), cntTo_succ, rowAt_val hT (by omega)]

/-- countFuncs between two rounds. -/
structure CMid (B : Nat) (fv : Value) (c : Nat) (W : World) : Prop where
  c3 : W.cell? ⟨B, 0, none⟩ = some fv
  c5 : W.cell? ⟨B + 1, 0, none⟩ = some (.int .i64 (c : Int))
  f5 : W.frozen? ⟨B + 1, 0, none⟩ = false
theorem CMid.kept {B : Nat} {fv : Value} {c : Nat} {W W' : World} {row : Option Nat} (h : CMid B fv c W) (hg : W.grownBy W' row) (hr : ∀ r, row = some r → ∃ o : Obj, W.heap[r]? = some o ∧ o.isCells = false) : CMid B fv c W' :=
  ⟨cell_kept h.c3 hg hr, cell_kept h.c5 hg hr, (frozen_kept h.c5 hg hr).trans h.f5⟩
theorem CMid.below {B : Nat} {fv : Value} {c : Nat} {W W' : World} (h : CMid B fv c W) (hb : Below W.heap.size W W') : CMid B fv c W' := ⟨kc hb h.c3, kc hb h.c5, kf hb h.c5 h.f5⟩
theorem CMid.up {B : Nat} {fv : Value} {c c2 : Nat} {W : World} (h : CMid B fv c W) : CMid B fv c2 (W.setCell ⟨B + 1, 0, none⟩ (.int .i64 (c2 : Int))) := by
  have d3 := h.c3
  have d5 := h.c5
  exact ⟨by simp [go_sem, d3], by simp [go_sem, d5], by rw [World.frozen?_setCell]; exact h.f5⟩

theorem stays_t {B n₀ : Nat} {A C D : World} (h : Stays B n₀ A C) (k : Stays B n₀ C D) : Stays B n₀ A D := ⟨h.1.trans k.1, fun v hv => k.2 v (h.2 v hv)⟩
theorem stays_b {B n₀ : Nat} {w : World} (hn : n₀ ≤ w.heap.size) (W : World) (l : Nat) (o o' : Obj) (hl : w.heap.size ≤ l) (h : W.heap[l]? = some o) (hc : o.isCells = false) (hw : o.isWalk = false) : Stays B n₀ W (W.putObj l o') :=
  ⟨belowK_b hn W l o o' hl h hc hw, fun _ hv => cell_kept hv (grownBy_putObj' W l o') (fun r e => by cases e; exact ⟨o, h, hc⟩)⟩
theorem stays_below {B n₀ : Nat} {W W' : World} (hn : n₀ ≤ W.heap.size) (h : Below W.heap.size W W') : Stays B n₀ W W' := ⟨h.mono hn, fun _ hv => kc h hv⟩
theorem stays_set {B n₀ C : Nat} (W : World) (hne : C ≠ B) (hn : n₀ ≤ C) (v : Value) : Stays B n₀ W (W.setCell ⟨C, 0, none⟩ v) :=
  ⟨(Below.refl _ _).setCell (p := ⟨C, 0, none⟩) hn v, fun u hu => by simp [go_sem, hu]⟩
theorem kotb {W w' : World} (hb : Below W.heap.size W w') : KeepsOthers W w' :=
  ⟨hb.size, fun k _ hk _ => (hb.block k (Array.getElem?_eq_some_iff.1 hk).1).trans hk⟩

end Go.Proofs.Ytlohldddioikaaa

/- M1:
  Lists of functions (structs of two numbers) in memory, and the laws' small functions on them. -/
namespace Go.Proofs.Ytlohldddioikaaa
open Go.RowKit

/-- The cells of a list of structs of two numbers. -/
def fcells : List (Int × Int) → List Value
  | [] => []
  | p :: xs => .int .i64 p.1 :: .int .i64 p.2 :: fcells xs
theorem fcells_length : ∀ xs, (fcells xs).length = xs.length * 2
  | [] => rfl
  | p :: xs => by simp only [fcells, List.length_cons, fcells_length xs]; omega
theorem fcells_append : ∀ xs ys, fcells (xs ++ ys) = fcells xs ++ fcells ys
  | [], _ => rfl
  | p :: xs, ys => by simp only [List.cons_append, fcells, fcells_append xs ys]
theorem fcells_snoc (xs : List (Int × Int)) (p : Int × Int) : fcells (xs ++ [p]) = fcells xs ++ [.int .i64 p.1, .int .i64 p.2] := fcells_append xs [p]
/-- The function at a place. -/
def fget (xs : List (Int × Int)) (j : Nat) : Int × Int := xs[j]?.getD (0, 0)
theorem fcells_get : ∀ (xs : List (Int × Int)) (j : Nat), j < xs.length → (fcells xs)[j * 2]? = some (.int .i64 (fget xs j).1) ∧ (fcells xs)[j * 2 + 1]? = some (.int .i64 (fget xs j).2)
  | [], j, h => by simp at h
  | p :: xs, 0, _ => ⟨rfl, rfl⟩
  | p :: xs, j + 1, h => by
    have := fcells_get xs j (by simpa using h)
    rw [show (j + 1) * 2 = j * 2 + 1 + 1 by omega]
    simpa [fcells, fget] using this
theorem fset (ys : List (Int × Int)) (vs : List Value) (i : Nat) (p : Int × Int) (hy : ys.length = i) (hv : i * 2 + 1 < vs.length) :
    ((fcells ys ++ vs.drop (i * 2)).set (i * 2) (.int .i64 p.1)).set (i * 2 + 1) (.int .i64 p.2) = fcells (ys ++ [p]) ++ vs.drop ((i + 1) * 2) := by
  have hl : (fcells ys).length = i * 2 := by rw [fcells_length, hy]
  rw [List.set_append_right _ _ (by omega), hl, Nat.sub_self, List.drop_eq_getElem_cons (by omega), List.set_cons_zero, List.set_append_right _ _ (by omega), hl,
    show i * 2 + 1 - i * 2 = 1 by omega, List.drop_eq_getElem_cons (by omega), List.set_cons_succ, List.set_cons_zero, fcells_snoc, List.append_assoc]
  simp [Nat.add_mul]
/-- The first j functions of a list, one more. -/
theorem ftake_snoc (zs : List (Int × Int)) (j : Nat) (h : j < zs.length) : zs.take (j + 1) = zs.take j ++ [fget zs j] := by
  rw [List.take_succ_eq_append_getElem h, fget, List.getElem?_eq_getElem h]; rfl
/-- The marks of a list of structs. -/
def fmarks (k : Int) (n : Nat) : List (Int × Int) := (List.range n).map fun (j : Nat) => (k + 2 * j, k + 2 * j + 1)
theorem fmarks_length (k : Int) (n : Nat) : (fmarks k n).length = n := by simp [fmarks]
theorem fmarks_succ (k : Int) (n : Nat) : fmarks k (n + 1) = fmarks k n ++ [(k + 2 * n, k + 2 * n + 1)] := by simp [fmarks, List.range_succ]
theorem fmarks_get (k : Int) (n j : Nat) (h : j < n) : fget (fmarks k n) j = (k + 2 * j, k + 2 * j + 1) := by simp [fmarks, fget, h]

theorem infoF : (Try.prog.info? 34).map (fun i => (i.zero, i.size, i.bytes)) = some (some (.agg #[.int .i64 0, .int .i64 0]), 2, 16) := by kernel_rfl

/-- s is a list of the call's own (from block base on) that holds the functions xs. -/
def OwnsF (W : World) (base : Nat) (s : Value) (xs : List (Int × Int)) : Prop := W.ownsRow base 34 2 s xs.length (fcells xs)
theorem OwnsF.below {W W' : World} {base : Nat} {s : Value} {xs : List (Int × Int)} (h : OwnsF W base s xs) (hb : Below W.heap.size W W') : OwnsF W' base s xs := by
  obtain ⟨h1, h2 | ⟨g, cap, cur, e1, e2, e3, r⟩⟩ := h
  · exact ⟨h1, .inl h2⟩
  · exact ⟨h1, .inr ⟨g, cap, cur, e1, e2, (hb.block g (Array.getElem?_eq_some_iff.1 e3).1).trans e3, r⟩⟩
theorem OwnsF.nil (W : World) (base : Nat) : OwnsF W base (.slice none 0 0) [] := World.ownsRow_nil _ _ _ _
theorem OwnsF.mono {W : World} {b1 b2 : Nat} {s : Value} {xs : List (Int × Int)} (h : OwnsF W b1 s xs) (hb : b2 ≤ b1) : OwnsF W b2 s xs := by
  obtain ⟨h1, h2 | ⟨g, cap, cur, e1, e2, e3, r⟩⟩ := h
  · exact ⟨h1, .inl h2⟩
  · exact ⟨h1, .inr ⟨g, cap, cur, e1, Nat.le_trans hb e2, e3, r⟩⟩
theorem OwnsF.lt {W : World} {b : Nat} {s : Value} {xs : List (Int × Int)} (h : OwnsF W b s xs) : ∀ k, s.ownBlock = some k → k < W.heap.size := fun k hk => (World.ownsRow.lt h k hk).2
theorem OwnsF.ge {W : World} {b : Nat} {s : Value} {xs : List (Int × Int)} (h : OwnsF W b s xs) : ∀ k, s.ownBlock = some k → b ≤ k := fun k hk => (World.ownsRow.lt h k hk).1
theorem OwnsF.keep {W W' : World} {b : Nat} {s : Value} {xs : List (Int × Int)} {row : Option Nat} (h : OwnsF W b s xs) (hg : W.grownBy W' row) (hne : ∀ k, s.ownBlock = some k → some k ≠ row) : OwnsF W' b s xs := by
  refine World.ownsRow.kept h hg ?_
  cases hs : s.ownBlock with
  | none => exact .inl rfl
  | some k => exact .inr (hne k hs)

theorem OwnsF.shape {W : World} {base : Nat} {s : Value} {xs : List (Int × Int)} (h : OwnsF W base s xs) :
    (xs = [] ∧ ∃ a cap, s = .slice a 0 cap) ∨ (0 < xs.length ∧ ∃ g cap, s = .slice (some ⟨g, 0, none⟩) xs.length cap ∧ base ≤ g ∧ g < W.heap.size ∧ Hid (∀ j, j < xs.length → W.cell? ⟨g, j * 2, none⟩ = some (.int .i64 (fget xs j).1) ∧ W.cell? ⟨g, j * 2 + 1, none⟩ = some (.int .i64 (fget xs j).2)) ∧ Hid (∀ j, W.frozen? ⟨g, j, none⟩ = false)) := by
  cases xs with
  | nil =>
    refine .inl ⟨rfl, ?_⟩
    obtain ⟨_, ⟨rfl, _⟩ | ⟨g, cap, cur, rfl, _⟩⟩ := h
    · exact ⟨_, _, rfl⟩
    · exact ⟨_, _, rfl⟩
  | cons x xs =>
    refine .inr ⟨by simp, ?_⟩
    obtain ⟨g, cap, rfl⟩ := ownsRow_succ (k := xs.length) h
    have hl := World.ownsRow.lt h g rfl
    refine ⟨g, cap, rfl, hl.1, hl.2, fun j hj => ?_, fun j => World.ownsRow.frozenAt h j⟩
    obtain ⟨h0, h1⟩ := fcells_get (x :: xs) j hj
    have hj' : j < xs.length + 1 := by simpa using hj
    rw [World.ownsRow.cellAt h (j * 2) (by omega), World.ownsRow.cellAt h (j * 2 + 1) (by omega)]
    exact ⟨h0, h1⟩

set_option maxRecDepth 100000 in
set_option maxHeartbeats 1000000 in
theorem szFuncS_any (a : Option Addr) (len cap : Nat) (hl : len ≤ 9223372036854775807) (left : Int) (h0 : 0 ≤ left) (h1 : left ≤ 1048576) (w : World) :
    Calls Try.prog 32 #[.slice a len cap, .int .i64 left] w fun e w' => e = .returned (.int .i64 (if (len : Int) ≤ left then left - len else -1)) ∧ w = w' := by
  by_cases h : (len : Int) ≤ left
  · rw [if_pos h]
    go_enter Try.func32, Try.ntmps32
    go_wp2
    go_ret
    exact ⟨rfl, rfl⟩
  · rw [if_neg h]
    go_enter Try.func32, Try.ntmps32
    go_wp2
    go_ret
    exact ⟨rfl, rfl⟩

theorem szFuncS_ok (a : Option Addr) (len cap : Nat) (h : len ≤ 1048576) (w : World) :
    Calls Try.prog 32 #[.slice a len cap, .int .i64 1048576] w fun e w' => e = .returned (.int .i64 (1048576 - (len : Int))) ∧ w = w' := by
  have := szFuncS_any a len cap (by omega) 1048576 (by omega) (by omega) w
  rwa [if_pos (by omega)] at this
theorem szFuncS_over (a : Option Addr) (len cap : Nat) (h : 1048576 < len) (hl : len ≤ 9223372036854775807) (w : World) :
    Calls Try.prog 32 #[.slice a len cap, .int .i64 1048576] w fun e w' => e = .returned (.int .i64 (-1)) ∧ w = w' := by
  have := szFuncS_any a len cap hl 1048576 (by omega) (by omega) w
  rwa [if_neg (by omega)] at this

set_option maxRecDepth 100000 in
set_option maxHeartbeats 1000000 in
theorem heldFuncS_any {base : Nat} {s : Value} {n : Nat} (hl : n ≤ 1048576) (k : Int) (hk0 : 0 ≤ k) (hk1 : k ≤ 100000000) (w : World) (h : OwnsF w base s (fmarks k n)) :
    Calls Try.prog 31 #[s, .int .i64 k] w fun e w' => e = .returned (.int .i64 (k + 2 * n)) ∧ w = w' := by
  rcases h.shape with ⟨he, a, cap, rfl⟩ | ⟨hn, g, cap, rfl, hbg, hg, hc, hf⟩
  · have h0 : n = 0 := by have := congrArg List.length he; rw [fmarks_length] at this; exact this
    subst h0
    clear he
    go_enter Try.func31, Try.ntmps31
    go_wp2
    refine wp_loop_rounds 1 ?_
    rw [rounds_succ]
    go_wp2
    go_ret
    exact ⟨by simp, rfl⟩
  · rw [fmarks_length] at hn hc ⊢
    clear h hf
    go_enter Try.func31, Try.ntmps31
    go_wp2
    go_loop [1, 5] (fun q i' => ∃ i : Nat, i ≤ n ∧ i' = .int .i64 i ∧ q = .int .i64 (k + 2 * i)) (fun _ i' => n - (intOf i').toNat)
    case atStart => exact ⟨0, Nat.zero_le _, rfl, by simp⟩
    case round =>
      obtain ⟨i, hi, rfl, rfl⟩ := hrel
      by_cases hlt : i < n
      · obtain ⟨hu, hu2⟩ := hc.out i hlt
        rw [fmarks_get k n i hlt] at hu hu2
        dsimp only at hu hu2
        go_wp2
        go_round
        case rel => exact ⟨i + 1, by omega, by go_num, by go_num⟩
        case measure => simp [intOf]; omega
      · obtain rfl : i = n := by omega
        go_wp2
        go_ret
        exact ⟨rfl, rfl⟩

set_option maxRecDepth 100000 in
set_option maxHeartbeats 2000000 in
theorem markFuncS_any {base : Nat} {s : Value} {xs : List (Int × Int)} (hl : xs.length ≤ 1048576) (k : Int) (hk0 : 0 ≤ k) (hk1 : k ≤ 100000000) (w : World) (h : OwnsF w base s xs) :
    Calls Try.prog 30 #[s, .int .i64 k] w fun e w' => e = .returned (.int .i64 (k + 2 * xs.length)) ∧ OwnsF w' base s (fmarks k xs.length) ∧ w.grownBy w' s.ownBlock := by
  rcases h.shape with ⟨rfl, a, cap, rfl⟩ | ⟨hn, g, cap, rfl, hbg, hg, hc, hf⟩
  · go_enter Try.func30, Try.ntmps30
    go_wp2
    refine wp_loop_rounds 1 ?_
    rw [rounds_succ]
    go_wp2
    go_ret
    exact ⟨by simp, h, World.grownBy.refl _ _⟩
  · have hn' : (fcells xs).length = xs.length * 2 := fcells_length xs
    unfold OwnsF at h
    unfold OwnsF
    rw [fmarks_length]
    generalize xs.length = n at hl hn hn' hc h ⊢
    generalize fcells xs = vs at hn' h
    clear hc hf
    go_enter Try.func30, Try.ntmps30
    go_wp2
    go_loopw [1, 5] (fun q i' wr => ∃ i : Nat, i ≤ n ∧ i' = .int .i64 i ∧ q = .int .i64 (k + 2 * i) ∧ wr.ownsRow base 34 2 (.slice (some ⟨g, 0, none⟩) n cap) n (fcells (fmarks k i) ++ vs.drop (i * 2)) ∧ w.grownBy wr (some g)) (fun _ i' _ => n - (intOf i').toNat)
    case atStart => exact ⟨0, Nat.zero_le _, rfl, by simp, by simpa [fmarks, fcells] using h, World.grownBy.refl _ _⟩
    case round =>
      clear h
      obtain ⟨i, hi, rfl, rfl, ho, hgr⟩ := hrel
      by_cases hlt : i < n
      · have hlen : (fcells (fmarks k i) ++ vs.drop (i * 2)).length = n * 2 := by rw [List.length_append, fcells_length, fmarks_length, List.length_drop]; omega
        obtain ⟨u, hu⟩ : ∃ u, wr.cell? ⟨g, i * 2, none⟩ = some u := by
          rw [ho.cellAt (i * 2) (by omega)]
          exact ⟨_, List.getElem?_eq_getElem (by omega)⟩
        obtain ⟨u2, hu2⟩ : ∃ u, wr.cell? ⟨g, i * 2 + 1, none⟩ = some u := by
          rw [ho.cellAt (i * 2 + 1) (by omega)]
          exact ⟨_, List.getElem?_eq_getElem (by omega)⟩
        have hfz := ho.frozenAt (i * 2)
        have hfz2 := ho.frozenAt (i * 2 + 1)
        obtain ⟨o1, g1⟩ := ho.stored (i * 2) (.int .i64 (k + 2 * i))
        obtain ⟨o2, g2⟩ := o1.stored (i * 2 + 1) (.int .i64 (k + 2 * i + 1))
        rw [fset (fmarks k i) vs i (k + 2 * i, k + 2 * i + 1) (fmarks_length k i) (by omega), ← fmarks_succ] at o2
        have HST := Lib.hid o2
        have hgr' := Lib.hid (gtrans (gtrans hgr g1) g2)
        clear o1 o2 g1 g2 ho hgr hn' hlen
        go_wp2
        go_roundw
        case rel => exact ⟨i + 1, by omega, by go_num, by go_num, HST.out, hgr'.out⟩
        case measure => simp [intOf]; omega
      · obtain rfl : i = n := by omega
        have ho' := Lib.hid ho
        have hgr' := Lib.hid hgr
        have hd := Lib.hid (List.drop_of_length_le (l := vs) (i := i * 2) (by omega))
        clear ho hgr hn'
        go_wp2
        go_ret
        exact ⟨rfl, by have := ho'.out; rw [hd.out, List.append_nil] at this; exact this, hgr'.out⟩

theorem hold4 {W w' w : World} {a b c d : Addr} {u v y z : Value} (hb : Below W.heap.size W w') (h : ((W.cell? a = some u ∧ W.cell? b = some v) ∧ (W.cell? c = some y ∧ W.cell? d = some z)) ∧ Below w.heap.size w W) :
    ((w'.cell? a = some u ∧ w'.cell? b = some v) ∧ (w'.cell? c = some y ∧ w'.cell? d = some z)) ∧ Below w.heap.size w w' := ⟨⟨⟨kc hb h.1.1.1, kc hb h.1.1.2⟩, kc hb h.1.2.1, kc hb h.1.2.2⟩, bthen h.2 hb⟩

set_option maxRecDepth 100000 in
set_option maxHeartbeats 2000000 in
theorem eqFuncS_same {b1 b2 : Nat} {s1 s2 : Value} {xs : List (Int × Int)} (hl : xs.length ≤ 100000000) (w : World) (h1 : OwnsF w b1 s1 xs) (h2 : OwnsF w b2 s2 xs) :
    Calls Try.prog 27 #[s1, s2] w fun e w' => e = .returned (.bool true) ∧ Below w.heap.size w w' := by
  rcases h1.shape with ⟨rfl, a, cap, rfl⟩ | ⟨hn, g, cap, rfl, _, hg, hc, _⟩
  · rcases h2.shape with ⟨_, a', cap', rfl⟩ | ⟨hn, _⟩
    · go_enter Try.func27, Try.ntmps27
      go_wp2
      refine wp_loop_rounds 1 ?_
      rw [rounds_succ]
      go_wp2
      go_ret
      exact ⟨rfl, Below.refl _ _⟩
    · simp at hn
  · rcases h2.shape with ⟨h0, _⟩ | ⟨_, g', cap', rfl, _, hg', hc', _⟩
    · rw [h0] at hn; simp at hn
    · clear h1 h2
      generalize xs.length = n at hl hn hc hc' ⊢
      go_enter Try.func27, Try.ntmps27
      go_wp2
      go_loopw [5] (fun i wr => ∃ k : Nat, k ≤ n ∧ i = .int .i64 k ∧ Below w.heap.size w wr) (fun i _ => n - (intOf i).toNat)
      case atStart => exact ⟨0, Nat.zero_le _, rfl, Below.refl _ _⟩
      case round =>
        obtain ⟨k, hk, rfl, hB⟩ := hrel
        by_cases hlt : k < n
        · obtain ⟨c0, c1⟩ := hc.out k hlt
          obtain ⟨c2, c3⟩ := hc'.out k hlt
          have d0 := (hB.cell (p := ⟨g, k * 2, none⟩) hg).trans c0
          have d1 := (hB.cell (p := ⟨g, k * 2 + 1, none⟩) hg).trans c1
          have d2 := (hB.cell (p := ⟨g', k * 2, none⟩) hg').trans c2
          have d3 := (hB.cell (p := ⟨g', k * 2 + 1, none⟩) hg').trans c3
          clear c0 c1 c2 c3
          have i0 : (0 : Int) ≤ (k : Int) := by omega
          have i1 : ((k : Int) < (n : Int)) := by omega
          go_wp2
          go_region_held3 (fun w' => ((w'.cell? ⟨g, k * 2, none⟩ = some (.int .i64 (fget xs k).1) ∧ w'.cell? ⟨g, k * 2 + 1, none⟩ = some (.int .i64 (fget xs k).2)) ∧ (w'.cell? ⟨g', k * 2, none⟩ = some (.int .i64 (fget xs k).1) ∧ w'.cell? ⟨g', k * 2 + 1, none⟩ = some (.int .i64 (fget xs k).2))) ∧ Below w.heap.size w w') (first | exact ⟨⟨⟨d0, d1⟩, d2, d3⟩, hB.drew⟩ | exact hold4 hb1 (by assumption))
            (first
              | (go_at_call 54; refine (eqFunc_same _ _ _).mono ?_; rintro e w' ⟨rfl, hb1⟩))
          go_wp2
          go_roundw
          case rel => exact ⟨k + 1, by omega, by go_num, (‹(_ ∧ _) ∧ Below _ _ _›).2⟩
          case measure => simp [intOf]; omega
        · obtain rfl : k = n := by omega
          go_wp2
          go_ret
          exact ⟨rfl, hB⟩
end Go.Proofs.Ytlohldddioikaaa

/- M2:
  A list of functions that came in, copied. -/
namespace Go.Proofs.Ytlohldddioikaaa
open Go.RowKit

/-- A slice of structs of two numbers that came in: its numbers are zs. -/
def IsRowF (w : World) (a : Option Addr) (len : Nat) (zs : List (Int × Int)) : Prop :=
  zs.length = len ∧ len ≤ 9223372036854775807 ∧ (len = 0 ∨ ∃ b off, a = some ⟨b, off, none⟩ ∧ b < w.heap.size ∧ Hid (∀ j, j < len → w.cell? ⟨b, off + j * 2, none⟩ = some (.int .i64 (fget zs j).1) ∧ w.cell? ⟨b, off + j * 2 + 1, none⟩ = some (.int .i64 (fget zs j).2)))

/-- A post with 'there is a list of functions'. -/
def FListPost (base : Nat) (xs : List (Int × Int)) (w : World) (e : Ending) (w' : World) : Prop := ∃ s, e = .returned s ∧ OwnsF w' base s xs ∧ Below w.heap.size w w'
def FListCodePost (base : Nat) (xs : List (Int × Int)) (c : Int) (w : World) (e : Ending) (w' : World) : Prop := ∃ s, e = .returned (.tuple #[s, .int .i64 c]) ∧ OwnsF w' base s xs ∧ Below w.heap.size w w'

set_option maxRecDepth 100000 in
set_option maxHeartbeats 2000000 in
theorem toFuncS_any {a : Option Addr} {len cap : Nat} {zs : List (Int × Int)} {w0 : World} (h : IsRowF w0 a len zs) (hl : len ≤ 1048576) (w : World) (hw : Below w0.heap.size w0 w) :
    Calls Try.prog 34 #[.slice a len cap] w (FListPost w.heap.size zs w) := by
  obtain ⟨i0, hi, hz0, hz1, hz2⟩ := info_parts infoF
  obtain ⟨hzl, _, h0 | ⟨b, off, rfl, hb, hc⟩⟩ := h
  · subst h0
    obtain rfl : zs = [] := List.length_eq_zero_iff.1 hzl
    go_enter Try.func34, Try.ntmps34
    go_wp2_with (at_make; refine wpList_make_full _ rfl _ _ 39 rfl w.heap.size 34 i0 (.agg #[.int .i64 0, .int .i64 0]) 2 Try.underlying39 hi hz0 hz1 .i64 .i64 _ _ 0 rfl rfl rfl rfl (by rw [hz2]; decide) (by decide) (Nat.le_refl _) ?_; intro w1 hown1 hgrow1)
    have hB : Below w.heap.size w w1 := (Below.refl _ _).grown hgrow1 (Nat.le_refl _) (fun j e => by cases e)
    generalize (madeCells (Value.agg #[.int .i64 0, .int .i64 0]).cells (0 * 2)).toList = vs at hown1
    obtain rfl : vs = [] := List.length_eq_zero_iff.1 (by simpa using hown1.1)
    have ho := Lib.hid hown1
    clear hown1 hgrow1
    refine wp_loop_rounds 1 ?_
    rw [rounds_succ]
    go_wp2
    go_ret
    refine ⟨.slice (some ⟨w.heap.size, 0, none⟩) 0 0, rfl, ?_, hB⟩
    exact ho.out
  · go_enter Try.func34, Try.ntmps34
    go_wp2_with (at_make; refine wpList_make_full _ rfl _ _ 39 rfl w.heap.size 34 i0 (.agg #[.int .i64 0, .int .i64 0]) 2 Try.underlying39 hi hz0 hz1 .i64 .i64 _ _ len rfl rfl rfl rfl (by rw [hz2]; omega) (by unfold maxLen; omega) (Nat.le_refl _) ?_; intro w1 hown1 hgrow1)
    have hB : Below w.heap.size w w1 := (Below.refl _ _).grown hgrow1 (Nat.le_refl _) (fun j e => by cases e)
    have hvl := hown1.1
    generalize (madeCells (Value.agg #[.int .i64 0, .int .i64 0]).cells (len * 2)).toList = vs at hown1 hvl
    clear hgrow1
    go_loopw [4] (fun i' wr => ∃ i : Nat, i ≤ len ∧ i' = .int .i64 i ∧ wr.ownsRow w.heap.size 34 2 (.slice (some ⟨w.heap.size, 0, none⟩) len len) len (fcells (zs.take i) ++ vs.drop (i * 2)) ∧ Below w.heap.size w wr) (fun i' _ => len - (intOf i').toNat)
    case atStart => exact ⟨0, Nat.zero_le _, rfl, by simpa [fcells] using hown1, hB⟩
    case round =>
      clear hown1 hB
      obtain ⟨i, hi', rfl, ho, hN⟩ := hrel
      by_cases hlt : i < len
      · have hs := hw.size
        obtain ⟨c0, c1⟩ := hc.out i hlt
        have s0 := ((hN.cell (p := ⟨b, off + i * 2, none⟩) (by show b < w.heap.size; omega)).trans (hw.cell (p := ⟨b, off + i * 2, none⟩) hb)).trans c0
        have s1 := ((hN.cell (p := ⟨b, off + i * 2 + 1, none⟩) (by show b < w.heap.size; omega)).trans (hw.cell (p := ⟨b, off + i * 2 + 1, none⟩) hb)).trans c1
        clear c0 c1
        have hHO := Lib.hid ho
        clear ho
        go_wp2_with fail
        refine (toFunc_any (fget zs i).1 (fget zs i).2 _).mono ?_
        rintro e w2 ⟨rfl, hb2⟩
        have hN2 := bthen hN hb2
        have ho : w2.ownsRow w.heap.size 34 2 (.slice (some ⟨w.heap.size, 0, none⟩) len len) len (fcells (zs.take i) ++ vs.drop (i * 2)) := by
          obtain ⟨h1, h2 | ⟨g, cap, cur, e1, e2, e3, r⟩⟩ := hHO.out
          · exact ⟨h1, .inl h2⟩
          · exact ⟨h1, .inr ⟨g, cap, cur, e1, e2, (hb2.block g (Array.getElem?_eq_some_iff.1 e3).1).trans e3, r⟩⟩
        have hlen : (fcells (zs.take i) ++ vs.drop (i * 2)).length = len * 2 := by rw [List.length_append, fcells_length, List.length_take, List.length_drop]; omega
        obtain ⟨u, hu⟩ : ∃ u, w2.cell? ⟨w.heap.size, i * 2, none⟩ = some u := by
          rw [ho.cellAt (i * 2) (by omega)]
          exact ⟨_, List.getElem?_eq_getElem (by omega)⟩
        obtain ⟨u2, hu2⟩ : ∃ u, w2.cell? ⟨w.heap.size, i * 2 + 1, none⟩ = some u := by
          rw [ho.cellAt (i * 2 + 1) (by omega)]
          exact ⟨_, List.getElem?_eq_getElem (by omega)⟩
        have hfz := ho.frozenAt (i * 2)
        have hfz2 := ho.frozenAt (i * 2 + 1)
        obtain ⟨o1, g1⟩ := ho.stored (i * 2) (.int .i64 (fget zs i).1)
        obtain ⟨o2, g2⟩ := o1.stored (i * 2 + 1) (.int .i64 (fget zs i).2)
        rw [fset (zs.take i) vs i (fget zs i) (by rw [List.length_take]; omega) (by omega), ← ftake_snoc zs i (by omega)] at o2
        have HST := Lib.hid o2
        clear o1 o2 g1 g2 ho hvl hlen hHO s0 s1
        go_wp2
        go_roundw
        case rel => exact ⟨i + 1, by omega, by go_num, HST.out, (hN2.setCell (p := ⟨w.heap.size, i * 2, none⟩) (Nat.le_refl _) _).setCell (p := ⟨w.heap.size, i * 2 + 1, none⟩) (Nat.le_refl _) _⟩
        case measure => simp [intOf]; omega
      · obtain rfl : i = len := by omega
        have ho' := Lib.hid ho
        have hd := Lib.hid (List.drop_of_length_le (l := vs) (i := i * 2) (by omega))
        have ht := Lib.hid (List.take_of_length_le (l := zs) (i := i) (by omega))
        have hll := Lib.hid hzl
        clear ho hvl hzl
        go_wp2
        go_ret
        refine ⟨_, rfl, ?_, hN⟩
        unfold OwnsF
        rw [hll.out]
        have := ho'.out
        rw [hd.out, List.append_nil, ht.out] at this
        exact this

/-- From what is told of a slice of structs at each place. -/
theorem isRowF_mk {w : World} {x : Addr} {len : Nat} (hl : len ≤ 9223372036854775807) (h : ∀ i, i < len → ∃ q : Int × Int, w.cell? (x.add (i * 2)) = some (.int .i64 q.1) ∧ w.cell? (x.add (i * 2 + 1)) = some (.int .i64 q.2)) : ∃ zs, IsRowF w (some x) len zs := by
  obtain ⟨q, hq⟩ := Go.Deep.choose_lt h
  refine ⟨(List.range len).map q, by simp, hl, ?_⟩
  by_cases h0 : len = 0
  · exact .inl h0
  · obtain ⟨b, off, spot⟩ := x
    have hc0 := (hq 0 (by omega)).1
    have hs : spot = none := by simpa [Addr.add] using World.cell?_spot hc0
    subst hs
    have hb : b < w.heap.size := cell_lt (a := ⟨b, off, none⟩) (by simpa [Addr.add] using hc0)
    refine .inr ⟨b, off, rfl, hb, Lib.hid fun j hj => ?_⟩
    have e : ∀ k, Addr.add ⟨b, off, none⟩ k = ⟨b, off + k, none⟩ := fun k => by cases k <;> simp [Addr.add]
    obtain ⟨h1, h2⟩ := hq j hj
    rw [e] at h1 h2
    have hg : fget ((List.range len).map q) j = q j := by simp [fget, hj]
    rw [hg]
    exact ⟨h1, h2⟩
end Go.Proofs.Ytlohldddioikaaa

/- M4:
  Appending a function to a list of functions. -/
namespace Go.Proofs.Ytlohldddioikaaa
open Go.RowKit

theorem cell_two_new (W : World) (a b : Value) (t : TypeId) : ∀ (j : Nat) (u : Value), [a, b][j]? = some u → (W.alloc (.cells #[a, b] t)).cell? ((⟨W.heap.size, 0, none⟩ : Addr).add j) = some u := by
  intro j u h
  match j, h with
  | 0, h => simp at h; subst h; simp [go_sem, Addr.add]
  | 1, h => simp at h; subst h; simp [go_sem, Addr.add]
theorem one_cell_two (n x : Int) : ∀ u ∈ [Value.int .i64 n, Value.int .i64 x], u.oneCell' = true := by
  intro u hu
  simp at hu
  rcases hu with rfl | rfl <;> rfl
theorem OwnsF.snoc {W : World} {base : Nat} {s : Value} {xs : List (Int × Int)} {n x : Int} (h : W.ownsRow base 34 2 s (xs.length + 1) (fcells xs ++ [.int .i64 n, .int .i64 x])) : OwnsF W base s (xs ++ [(n, x)]) := by
  unfold OwnsF
  rw [fcells_snoc, List.length_append]
  exact h
end Go.Proofs.Ytlohldddioikaaa
