/-
  The texts NR3, NR4, NR5, NR6, MK1, CC5, IN1 in one.
-/
import Derived.Test.YtdgpjpcdifpllaaMPCentraliserOf6
import Derived.StillTailTactics
import Derived.Maps.OwnIn
import Derived.RangeFuncLeaves
import Derived.RangeFuncNested

/- NR3:
  putFrom by contract, where a round may write numbers of its own: one more to put in. -/
namespace Go.Proofs.Ytdgpjpcdifpllaa
open Go.RowKit Go.Shelf
set_option linter.unusedVariables false
set_option linter.unusedSimpArgs false

theorem cell_aboveI {K : Nat} {S : Nat → Prop} {W W' : World} (ha : AboveI K S W W') {b o : Nat} {u : Value} (hb : S b ∨ (K ≤ b ∧ Other W.heap[b]?)) (h : W.cell? ⟨b, o, none⟩ = some u) : W'.cell? ⟨b, o, none⟩ = some u := by
  have hl := cell_lt h
  have := ha.same b hb hl
  simp only [World.cell?, this] at h ⊢
  exact h
theorem owns_aboveI {K : Nat} {S : Nat → Prop} {W W' : World} {base : Nat} {s : Value} {xs : List Int} (h : Owns W base s xs) (ha : AboveI K S W W') (hs : ∀ k, s.ownBlock = some k → S k ∨ (K ≤ k ∧ Other W.heap[k]?)) : Owns W' base s xs := by
  obtain ⟨h1, h2 | ⟨g, cap, cur, e1, e2, e3, r⟩⟩ := h
  · exact ⟨h1, .inl h2⟩
  · exact ⟨h1, .inr ⟨g, cap, cur, e1, e2, (ha.same g (hs g (by rw [e1]; rfl)) (Array.getElem?_eq_some_iff.1 e3).1).trans e3, r⟩⟩
theorem own_notOther {W : World} {base g n cap : Nat} {xs : List Int} (h : Owns W base (.slice (some ⟨g, 0, none⟩) n cap) xs) (hn : 0 < xs.length) : ¬ Other W.heap[g]? := by
  obtain ⟨h1, h2 | ⟨g', cap', cur, e1, e2, e3, r⟩⟩ := h
  · have := h2.2; omega
  · cases e1
    rintro ⟨o', e, ht⟩
    rw [e3] at e
    cases e
    exact ht _ _ rfl

/-- What putFrom answers, and what it leaves. -/
def PutPostR {v : Nat → Nat} (hv : ∀ q, v q < 2 ^ 4) (T U L m d K : Nat) (S : Nat → Prop) (J Jx : List OutV → World → Prop) (gs p : List Nat) (pre : List OutV) (tr : List Int) (W : World) (e : Ending) (W' : World) : Prop :=
  (e = .returned (.bool true) ∧ AboveI K (fun k => S k ∧ k ≠ T ∧ k ≠ U) W W' ∧ (∃ tr' pu', SMemV T U L m tr' pu' W' ∧ (∀ j, 2 ^ d ≤ j → tr'[j]? = tr[j]?) ∧ pu'.take p.length = nI p) ∧ J (pre ++ outsV (.slice (some ⟨U, 0, none⟩) m m) hv gs p d) W') ∨
  (e = .returned (.bool false) ∧ ∃ q, q <+: outsV (.slice (some ⟨U, 0, none⟩) m m) hv gs p d ∧ Jx (pre ++ q) W')

/-- What is asked of memory at a call of putFrom. -/
structure PutPreR (v : Nat → Nat) (T U L m d K H N : Nat) (S : Nat → Prop) (J : List OutV → World → Prop) (sg : Value) (gs p : List Nat) (pre : List OutV) (tr pu : List Int) (W : World) : Prop where
  hp : p.length + d = m
  hm : SMemV T U L m tr pu W
  hlev : ∀ q, q < 2 ^ d → tr[2 ^ d + q]? = some ((levF v p q : Nat) : Int)
  hj : J pre W
  hN : pre.length + gs.length ^ d ≤ N
  hK : K ≤ W.heap.size
  hHW : H ≤ W.heap.size
  hg : Owns W 0 sg (nI gs)
  hpu : pu.take p.length = nI p
  hpb : ∀ a, a ∈ p → a < 16

/-- What stays as it is. -/
structure PutFixR (T U L m K H : Nat) (S : Nat → Prop) (sg : Value) (gs : List Nat) : Prop where
  hL : L = 2 ^ (m + 1)
  m4 : m ≤ 4
  kT : K ≤ T
  kU : K ≤ U
  ne : T ≠ U
  hT : T < H
  hU : U < H
  kS : ∀ k, K ≤ k → k < H → S k
  gS : ∀ k, sg.ownBlock = some k → S k ∧ k ≠ T ∧ k ≠ U
  g16 : ∀ a, a ∈ gs → a < 16
  gl : gs.length ≤ 16

set_option maxRecDepth 100000 in
set_option maxHeartbeats 8000000 in
theorem putFrom_succR {v : Nat → Nat} (hv : ∀ q, v q < 2 ^ 4) (l T U K m N L : Nat) (S : Nat → Prop) (sg : Value) (gs : List Nat) (J Jx : List OutV → World → Prop) (H : Nat) (hJ : FirmB K H J) (fx : PutFixR T U L m K H S sg gs) (d : Nat)
    (ih : ∀ p pre tr pu W, PutPreR v T U L m d K H N S J sg gs p pre tr pu W →
      Calls Try.prog 246 #[.agg #[.slice (some ⟨T, 0, none⟩) L L, .slice (some ⟨U, 0, none⟩) m m, sg], .int .i64 (p.length : Int), .func (.yield l) #[] #[]] W (PutPostR hv T U L m d K S J Jx gs p pre tr W))
    (p : List Nat) (pre : List OutV) (tr pu : List Int) (W : World) (h : PutPreR v T U L m (d + 1) K H N S J sg gs p pre tr pu W) :
    Calls Try.prog 246 #[.agg #[.slice (some ⟨T, 0, none⟩) L L, .slice (some ⟨U, 0, none⟩) m m, sg], .int .i64 (p.length : Int), .func (.yield l) #[] #[]] W (PutPostR hv T U L m (d + 1) K S J Jx gs p pre tr W) := by
  obtain ⟨i, hi'⟩ : ∃ i, p.length = i := ⟨_, rfl⟩
  obtain ⟨hp, hm, hlev, hj, hN, hK, hHW, hg, hpu, hpb⟩ := h
  obtain ⟨hL, m4, kT, kU, ne, hTH, hUH, kS, gS, g16, gl⟩ := fx
  have lT : T < W.heap.size := (World.ownsRow.lt hm.ot T rfl).2
  have lU : U < W.heap.size := (World.ownsRow.lt hm.ou U rfl).2
  obtain ⟨W1, hW1⟩ : ∃ W1, W.alloc (.cells #[.slice (some ⟨T, 0, none⟩) L L, .slice (some ⟨U, 0, none⟩) m m, sg] 269) = W1 := ⟨_, rfl⟩
  have p0 : W1.cell? ⟨W.heap.size, 0, none⟩ = some (.slice (some ⟨T, 0, none⟩) L L) := by rw [← hW1]; simp [go_sem]
  have p1 : W1.cell? ⟨W.heap.size, 1, none⟩ = some (.slice (some ⟨U, 0, none⟩) m m) := by rw [← hW1]; simp [go_sem]
  have p2 : W1.cell? ⟨W.heap.size, 2, none⟩ = some sg := by rw [← hW1]; simp [go_sem]
  have hb : Below W.heap.size W W1 := by rw [← hW1]; exact bnew _ _
  have sB : (S W.heap.size ∧ W.heap.size ≠ T ∧ W.heap.size ≠ U) ∨ (K ≤ W.heap.size ∧ Other W1.heap[W.heap.size]?) := .inr ⟨hK, by rw [← hW1]; exact ⟨_, heap_alloc_new _ _, fun cs z e => by injection e with _ h _; exact absurd h (by decide)⟩⟩
  have hA1 : AboveI K (fun k => S k ∧ k ≠ T ∧ k ≠ U) W W1 := AboveI.below hb
  have hm1 : SMemV T U L m tr pu W1 := ⟨hm.ot.below hb, hm.ou.below hb, hm.lt, hm.lu⟩
  have hg1 : Owns W1 0 sg (nI gs) := hg.below hb
  have hj1 : J pre W1 := by rw [← hW1]; exact hJ.alloc _ hj
  obtain ⟨sa, cap, rfl⟩ : ∃ a cap, sg = .slice a gs.length cap := by
    obtain ⟨a, cap, e⟩ := owns_len hg (nI_length gs)
    exact ⟨a, cap, e⟩
  rw [hi'] at hp hpu ⊢
  have HPU0 := Lib.hid hpu
  clear hpu
  have hd4 : d ≤ 3 := by omega
  have hlp : (i : Int) < (m : Int) := by omega
  have hne : ((i : Int) == (m : Int)) = false := by simp; omega
  have hs1 : (m : Int) - (i : Int) - 1 = (d : Int) := by omega
  obtain ⟨F, hFd⟩ : ∃ F, F = 2 ^ d := ⟨_, rfl⟩
  have hF : wrap64 ((2 : Int) ^ d) = (F : Int) := by
    have h8 : F ≤ 8 := by rw [hFd]; exact Nat.pow_le_pow_right (by decide) hd4
    have e : (2 : Int) ^ d = (F : Int) := by rw [hFd]; push_cast; rfl
    rw [e]
    exact IntWalk.wrap64_in _ ⟨by omega, by omega⟩
  have F1 : 1 ≤ F := by rw [hFd]; exact Nat.two_pow_pos d
  have F8 : F ≤ 8 := by rw [hFd]; exact Nat.pow_le_pow_right (by decide) hd4
  have hF2 : 2 ^ (d + 1) = 2 * F := by rw [hFd, Nat.pow_succ]; omega
  have FL : 4 * F ≤ L := by
    rw [hFd, hL]
    have h1 : 2 ^ (d + 2) ≤ 2 ^ (m + 1) := Nat.pow_le_pow_right (by decide) (by omega)
    have h2 : 2 ^ (d + 2) = 4 * 2 ^ d := by rw [Nat.pow_succ, Nat.pow_succ, Nat.mul_assoc, Nat.mul_comm]
    exact h2 ▸ h1
  have L32 : L ≤ 32 := by rw [hL]; exact Nat.pow_le_pow_right (by decide) (show m + 1 ≤ 5 by omega)
  rw [hF2] at hlev
  have HF2 := Lib.hid hF2
  have HLV := Lib.hid hlev
  have HFD := Lib.hid hFd
  have HN := Lib.hid hN
  have HOS := Lib.hid (outs_succV (.slice (some ⟨U, 0, none⟩) m m) hv gs p d)
  have HI := Lib.hid hi'
  clear hi'
  clear hL hF2 hFd hlev hN hm hg hj hb
  go_enter Try.func246, Try.ntmps246
  go_wp2_with fail
  clear hW1
  rw [hF]
  clear hF
  go_loopw [34] (fun j' wr => ∃ j : Nat, j ≤ gs.length ∧ j' = .int .i64 j ∧ (∃ trj puj, SMemV T U L m trj puj wr ∧ (∀ x, 2 * F ≤ x → trj[x]? = tr[x]?) ∧ Hid (puj.take i = nI p)) ∧ AboveI K (fun k => S k ∧ k ≠ T ∧ k ≠ U) W1 wr ∧ J (pre ++ outsToV (.slice (some ⟨U, 0, none⟩) m m) hv gs p d j) wr)
    (fun j' _ => gs.length - (intOf j').toNat)
  case atStart => exact ⟨0, Nat.zero_le _, rfl, ⟨tr, pu, hm1, fun _ _ => rfl, HPU0⟩, AboveI.refl _ _ _, by simpa [outsToV] using hj1⟩
  case round =>
    obtain ⟨j, hjl, rfl, ⟨trj, puj, hmj, hkeep, HPU⟩, hAj, hJj⟩ := hrel
    by_cases hlt : j < gs.length
    · obtain ⟨a, ha⟩ : ∃ a, gs[j]? = some a := ⟨_, List.getElem?_eq_getElem hlt⟩
      have a16 : a < 16 := g16 a (List.mem_of_getElem? ha)
      obtain ⟨G, rfl⟩ : ∃ G, sa = some ⟨G, 0, none⟩ := by
        rcases hg1.shape with ⟨e, _⟩ | ⟨_, g, c, e, _⟩
        · have := congrArg List.length e; rw [nI_length] at this; simp at this; rw [this] at hlt; simp at hlt
        · injection e with e1 _ _
          exact ⟨g, e1⟩
      have hgj := owns_aboveI hg1 hAj (fun k e => .inl (gS k e))
      have cG : wr.cell? ⟨G, j, none⟩ = some (.int .i64 (a : Int)) := cell_of_owns hgj (by rw [nI_length]) j _ (by simp [nI, ha])
      have q0 := cell_aboveI hAj sB p0
      have q1 := cell_aboveI hAj sB p1
      obtain ⟨W2, hW2⟩ : ∃ W2, wr.setCell ⟨U, i, none⟩ (.int .i64 (a : Int)) = W2 := ⟨_, rfl⟩
      obtain ⟨u, cu⟩ : ∃ u, wr.cell? ⟨U, i, none⟩ = some u := by
        have hl : i < puj.length := by rw [hmj.lu]; omega
        exact ⟨_, cell_of_owns hmj.ou (by rw [hmj.lu]) i _ (List.getElem?_eq_getElem hl)⟩
      have fu : wr.frozen? ⟨U, i, none⟩ = false := by
        have := hmj.ou; rw [← hmj.lu] at this; exact frozen_of_owns this i
      have hm2 : SMemV T U L m trj (puj.set i a) W2 := by
        rw [← hW2]
        exact ⟨owns_other hmj.ot U i _ (fun k e => by cases e; exact ne), owns_set hmj.ou hmj.lu.symm i a, hmj.lt, by rw [List.length_set]; exact hmj.lu⟩
      have hA2 : AboveI K (fun k => S k ∧ k ≠ T ∧ k ≠ U) W1 W2 := by
        rw [← hW2]; exact hAj.trans (AboveI.grown (grownSet _ _ _ _) (fun r e => by cases e; exact ⟨fun h => h.2.2 rfl, .inr (own_notOther hmj.ou (by rw [hmj.lu]; omega))⟩))
      have hJ2 : J (pre ++ outsToV (.slice (some ⟨U, 0, none⟩) m m) hv gs p d j) W2 := by
        rw [← hW2]; exact hJ _ _ _ _ hJj (grownSet _ _ _ _) (fun r e => by cases e; exact ⟨kU, hUH⟩)
      have HP2 := Lib.hid (show (puj.set i (a : Int)).take (i + 1) = nI (p ++ [a]) by rw [take_set_succ _ _ _ (by rw [hmj.lu]; omega), HPU.out]; simp [nI])
      have HA := Lib.hid ha
      clear ha hmj hAj hJj hgj
      go_wp2
      go_loopw [10] (fun pl wq => ∃ k : Nat, k ≤ F ∧ pl = .int .i64 ((F + k : Nat) : Int) ∧ SMemV T U L m (setsN trj F (fun q => ((levF v (p ++ [a]) q : Nat) : Int)) k) (puj.set i a) wq ∧ AboveI K (fun k => S k ∧ k ≠ T ∧ k ≠ U) W1 wq ∧ J (pre ++ outsToV (.slice (some ⟨U, 0, none⟩) m m) hv gs p d j) wq)
        (fun pl _ => 2 * F - (intOf pl).toNat)
      case atStart => exact ⟨0, Nat.zero_le _, by simp, hm2, hA2, hJ2⟩
      case round =>
        clear q0 q1 cG cu fu hW2 hm2 hA2 hJ2
        obtain ⟨k, hk, rfl, hmq, hAq, hJq⟩ := hrel
        have q0 := cell_aboveI hAq sB p0
        have q1 := cell_aboveI hAq sB p1
        have q2 := cell_aboveI hAq sB p2
        by_cases hkl : k < F
        · have hx1 : (setsN trj F (fun q => ((levF v (p ++ [a]) q : Nat) : Int)) k)[2 * (F + k)]? = some ((levF v p (2 * k) : Nat) : Int) := by
            rw [setsN_out _ _ _ _ _ (by omega), hkeep _ (by omega), show 2 * (F + k) = 2 * F + 2 * k by omega]
            exact HLV.out _ (by omega)
          have hx2 : (setsN trj F (fun q => ((levF v (p ++ [a]) q : Nat) : Int)) k)[2 * (F + k) + 1]? = some ((levF v p (2 * k + 1) : Nat) : Int) := by
            rw [setsN_out _ _ _ _ _ (by omega), hkeep _ (by omega), show 2 * (F + k) + 1 = 2 * F + (2 * k + 1) by omega]
            exact HLV.out _ (by omega)
          have hlev2 := Lib.hid (levF_snoc v p a k)
          have hop := sel_ops (levF v p (2 * k)) (levF_lt hv p _) (levF v p (2 * k + 1)) (levF_lt hv p _) a a16
          have x16 := levF_lt hv p (2 * k)
          generalize levF v p (2 * k) = x1 at hx1 hlev2 hop x16
          generalize levF v p (2 * k + 1) = x2 at hx2 hlev2 hop
          obtain ⟨P, hP⟩ : ∃ P, P = F + k := ⟨_, rfl⟩
          obtain ⟨A, hA⟩ : ∃ A, A = 2 * P := ⟨_, rfl⟩
          obtain ⟨B, hB⟩ : ∃ B, B = A + 1 := ⟨_, rfl⟩
          have hw1 : IntKind.i64.wrap (2 * (P : Int)) = (A : Int) := by rw [wrap64_small (by omega) (by omega)]; omega
          have hw2 : IntKind.i64.wrap ((A : Int) + 1) = (B : Int) := by rw [wrap64_small (by omega) (by omega)]; omega
          have c1 : wr.cell? ⟨T, A, none⟩ = some (.int .i64 (x1 : Int)) := cell_of_owns hmq.ot (by rw [hmq.lt]) A _ (by rw [hA, hP]; exact hx1)
          have c2 : wr.cell? ⟨T, B, none⟩ = some (.int .i64 (x2 : Int)) := cell_of_owns hmq.ot (by rw [hmq.lt]) B _ (by rw [hB, hA, hP]; exact hx2)
          have hPL : P < L := by omega
          have hAL : A < L := by omega
          have hBL : B < L := by omega
          have hP2 : (P : Int) < 2 * (F : Int) := by omega
          obtain ⟨u3, c3⟩ : ∃ u, wr.cell? ⟨T, P, none⟩ = some u := by
            have hl : P < (setsN trj F (fun q => ((levF v (p ++ [a]) q : Nat) : Int)) k).length := by rw [hmq.lt]; omega
            exact ⟨_, cell_of_owns hmq.ot (by rw [hmq.lt]) P _ (List.getElem?_eq_getElem hl)⟩
          have f3 : wr.frozen? ⟨T, P, none⟩ = false := by
            have := hmq.ot; rw [← hmq.lt] at this; exact frozen_of_owns this P
          have HMQ := Lib.hid hmq
          have HPK := Lib.hid hP
          have hA3 := Lib.hid hA
          have hB3 := Lib.hid hB
          rw [← hP]
          clear hx1 hx2 hmq hA hB hP
          go_wp2
          go_region
          go_wp2
          go_roundw
          case rel =>
            have hl2 := hlev2.out
            refine ⟨k + 1, by omega, ?_, ?_, ?_, ?_⟩
            · rw [HPK.out]; go_num
            · have hst := owns_set HMQ.out.ot HMQ.out.lt.symm P ((selN x1 x2 a : Nat) : Int)
              have e : (setsN trj F (fun q => ((levF v (p ++ [a]) q : Nat) : Int)) k).set P ((selN x1 x2 a : Nat) : Int) = setsN trj F (fun q => ((levF v (p ++ [a]) q : Nat) : Int)) (k + 1) := by
                rw [setsN, hl2, HPK.out]
              rw [e] at hst
              exact ⟨hst.below (Below.refl _ _).drew, (owns_other HMQ.out.ou T P _ (fun k e => by cases e; exact fun h => ne h.symm)).below (Below.refl _ _).drew, by rw [setsN_length, ← setsN_length trj F (fun q => ((levF v (p ++ [a]) q : Nat) : Int)) k]; exact HMQ.out.lt, HMQ.out.lu⟩
            · exact hAq.trans ((AboveI.grown (grownSet wr T P _) (fun r e => by cases e; exact ⟨fun h => h.2.1 rfl, .inr (own_notOther HMQ.out.ot (by rw [HMQ.out.lt]; omega))⟩)).trans (AboveI.below (Below.refl _ _).drew))
            · exact FirmB.drew hJ (hJ _ _ _ _ hJq (grownSet wr T P _) (fun r e => by cases e; exact ⟨kT, hTH⟩))
          case measure => simp [intOf]; omega
        · obtain rfl : k = F := by omega
          have hsN := setsN_length trj k (fun q => ((levF v (p ++ [a]) q : Nat) : Int)) k
          have hlen2 : (p ++ [a]).length = i + 1 := by rw [List.length_append, HI.out]; rfl
          have hN2 : (pre ++ outsToV (.slice (some ⟨U, 0, none⟩) m m) hv gs p d j).length + gs.length ^ d ≤ N := by
            have h1 := HN.out
            rw [List.length_append, outsTo_lengthV _ _ _ _ _ _ hjl]
            have h2 : (j + 1) * gs.length ^ d ≤ gs.length * gs.length ^ d := Nat.mul_le_mul_right _ hlt
            rw [Nat.pow_succ, Nat.mul_comm] at h1
            rw [Nat.add_mul, Nat.one_mul] at h2
            omega
          have hKr : K ≤ wr.heap.size := Nat.le_trans (Nat.le_trans hK (Nat.le_trans (by have := hA1.size; exact this) (Nat.le_refl _))) hAq.size
          have hHr : H ≤ wr.heap.size := Nat.le_trans (Nat.le_trans hHW (Nat.le_trans (by have := hA1.size; exact this) (Nat.le_refl _))) hAq.size
          have IH := ih (p ++ [a]) (pre ++ outsToV (.slice (some ⟨U, 0, none⟩) m m) hv gs p d j) (setsN trj k (fun q => ((levF v (p ++ [a]) q : Nat) : Int)) k) (puj.set i a) wr
            ⟨by rw [hlen2]; omega, hmq, fun q hq => by rw [← HFD.out] at hq ⊢; exact setsN_in _ _ _ _ _ hq (by have := hmq.lt; rw [hsN] at this; omega), hJq, hN2, hKr, hHr, owns_aboveI hg1 hAq (fun k e => .inl (gS k e)), by rw [hlen2]; exact HP2.out, fun b hb => by rcases List.mem_append.1 hb with h | h; exact hpb b h; rw [List.mem_singleton.1 h]; exact a16⟩
          rw [hlen2] at IH
          have hw5 : IntKind.i64.wrap ((i : Int) + 1) = ((i + 1 : Nat) : Int) := by rw [wrap64_small (by omega) (by omega)]; push_cast; rfl
          have IHH := Lib.hid IH
          have HMQ := Lib.hid hmq
          have HHJ := Lib.hid hJq
          have hkp : ∀ x, 2 * k ≤ x → (setsN trj k (fun q => ((levF v (p ++ [a]) q : Nat) : Int)) k)[x]? = tr[x]? := fun x hx => by rw [setsN_out _ _ _ _ _ (by omega), hkeep x hx]
          have HKP := Lib.hid hkp
          have hP2 : decide (((k + k : Nat) : Int) < 2 * (k : Int)) = false := by simp; omega
          clear IH hmq hJq hsN hlen2 hN2 hkp
          go_wp2_with (go_at_call 246; refine IHH.out.mono ?_; rintro e w5 (⟨rfl, hA5, ⟨tr5, pu5, hm5, hk5, hpu5⟩, hJ5⟩ | ⟨rfl, q, hqp, hq⟩))
          · go_roundw
            case rel =>
              refine ⟨j + 1, by omega, by go_num, ⟨tr5, pu5, hm5, fun x hx => ?_, Lib.hid (HI.out ▸ take_less hpu5)⟩, hAq.trans hA5, ?_⟩
              · rw [hk5 x (by rw [← HFD.out]; omega), HKP.out x hx]
              · rw [outsTo_succV _ _ _ _ _ _ _ HA.out, ← List.append_assoc]; exact hJ5
            case measure => simp [intOf]; omega
          · go_ret
            refine .inr ⟨rfl, outsToV (.slice (some ⟨U, 0, none⟩) m m) hv gs p d j ++ q, ?_, by rw [← List.append_assoc]; exact hq⟩
            rw [HOS.out]
            exact (outsTo_catV _ _ _ _ _ _ _ HA.out q hqp).trans (outsTo_prefV _ _ _ _ _ _ _ hlt)
    · obtain rfl : j = gs.length := by omega
      have HMJ := Lib.hid hmj
      have HJJ := Lib.hid hJj
      clear hmj hJj
      go_wp2
      go_ret
      refine .inl ⟨rfl, hA1.trans hAj, ⟨trj, puj, HMJ.out, fun x hx => hkeep x (by rw [← HF2.out]; exact hx), by rw [HI.out]; exact HPU.out⟩, ?_⟩
      rw [HOS.out]
      exact HJJ.out
end Go.Proofs.Ytdgpjpcdifpllaa

/- NR4:
  putFrom and the steps' iterator, where a round may write numbers of its own. -/
namespace Go.Proofs.Ytdgpjpcdifpllaa
open Go.RowKit Go.Shelf
set_option linter.unusedVariables false
set_option linter.unusedSimpArgs false

theorem FirmB.below {β : Type} {K H : Nat} {J : β → World → Prop} (h : FirmB K H J) {s : β} {W W' : World} (hs : J s W) (hb : Below W.heap.size W W') : J s W' :=
  h s W W' none hs ⟨hb.os, hb.tape, hb.output, hb.size, fun k hk _ => hb.block k hk⟩ (fun r e => by cases e)
theorem putFrom_allR {v : Nat → Nat} (hv : ∀ q, v q < 2 ^ 4) (l T U K m N L : Nat) (S : Nat → Prop) (sg : Value) (gs : List Nat) (J Jx : List OutV → World → Prop) (H : Nat) (hJ : FirmB K H J) (fx : PutFixR T U L m K H S sg gs)
    (hY : ∀ pre x W, J pre W → H ≤ W.heap.size → pre.length < N → Vis m K x W → YieldAt Fence.wide 1 Try.prog l (encSV x) W fun e W' =>
      AboveI K S W W' ∧ ((e = .returned (.bool true) ∧ J (pre ++ [x]) W') ∨ (e = .returned (.bool false) ∧ Jx (pre ++ [x]) W'))) (d : Nat) :
    ∀ p pre tr pu W, PutPreR v T U L m d K H N S J sg gs p pre tr pu W →
      Calls Try.prog 246 #[.agg #[.slice (some ⟨T, 0, none⟩) L L, .slice (some ⟨U, 0, none⟩) m m, sg], .int .i64 (p.length : Int), .func (.yield l) #[] #[]] W (PutPostR hv T U L m d K S J Jx gs p pre tr W) := by
  induction d with
  | zero =>
    intro p pre tr pu W h
    have hp : p.length = m := by have := h.hp; omega
    rw [hp]
    have lT : T < W.heap.size := (World.ownsRow.lt h.hm.ot T rfl).2
    have lU : U < W.heap.size := (World.ownsRow.lt h.hm.ou U rfl).2
    have hN : pre.length < N := by have := h.hN; rw [Nat.pow_zero] at this; omega
    refine ((callsIn_wide (n := 3)).1 (putFrom_zeroR hv l T U K m N L S sg J Jx H hJ fx.hL hY 3 p hp pre tr pu W fx.kU h.hpu h.hpb h.hm h.hlev h.hj hN h.hHW lT lU h.hK)).mono ?_
    rintro e W' (⟨rfl, ha, hj⟩ | ⟨rfl, hq⟩)
    · refine .inl ⟨rfl, ha.mono (fun k hk => hk.1), ⟨tr, pu, ⟨owns_aboveI h.hm.ot ha (fun k e => by cases e; exact .inl (fx.kS _ fx.kT fx.hT)), owns_aboveI h.hm.ou ha (fun k e => by cases e; exact .inl (fx.kS _ fx.kU fx.hU)), h.hm.lt, h.hm.lu⟩, fun _ _ => rfl, h.hpu⟩, ?_⟩
      rw [outs_zeroV]; exact hj
    · exact .inr ⟨rfl, _, by rw [outs_zeroV]; exact List.prefix_refl _, hq⟩
  | succ d ih => exact fun p pre tr pu W h => putFrom_succR hv l T U K m N L S sg gs J Jx H hJ fx d ih p pre tr pu W h

set_option maxRecDepth 100000 in
set_option maxHeartbeats 8000000 in
theorem steps1_anyR {x R m N : Nat} (ok : FOk (m : Int) x R) (m4 : m ≤ 4) (l Bf Bg Bn K : Nat) (S : Nat → Nat → Prop) (sg : Value) (gs : List Nat) (g16 : ∀ a, a ∈ gs → a < 16) (gl : gs.length ≤ 16) (hN : gs.length ^ m ≤ N)
    (J Jx : Nat → List OutV → World → Prop) (hJ : ∀ H, FirmB K H (J H)) (kS : ∀ H k, K ≤ k → k < H → S H k) (W : World) (gS : ∀ H, W.heap.size ≤ H → ∀ k, sg.ownBlock = some k → S H k)
    (hY : ∀ H pre x W1, J H pre W1 → W.heap.size ≤ H → H ≤ W1.heap.size → pre.length < N → Vis m K x W1 → YieldAt Fence.wide 1 Try.prog l (encSV x) W1 fun e W' =>
      AboveI K (S H) W1 W' ∧ ((e = .returned (.bool true) ∧ J H (pre ++ [x]) W') ∨ (e = .returned (.bool false) ∧ Jx H (pre ++ [x]) W')))
    (p0 : W.cell? ⟨Bf, 0, none⟩ = some (.int .i64 (m : Int))) (p1 : W.cell? ⟨Bf, 1, none⟩ = some (.int .i64 (x : Int))) (cg : W.cell? ⟨Bg, 0, none⟩ = some sg) (cn : W.cell? ⟨Bn, 0, none⟩ = some (.int .i64 2))
    (hg : Owns W 0 sg (nI gs)) (hK : K ≤ W.heap.size) (hj : ∀ H, W.heap.size ≤ H → J H [] W) :
    Calls Try.prog 243 #[.func (.yield l) #[] #[], .pointer (some ⟨Bf, 0, none⟩), .pointer (some ⟨Bg, 0, none⟩), .pointer (some ⟨Bn, 0, none⟩)] W fun e W' => (∃ v, e = .returned v) ∧
      ((∃ sp H, W.heap.size ≤ H ∧ J H (outsV sp (v := fun q => bitN x q * 15) (fun q => by have := bitN_le x q; show bitN x q * 15 < 16; omega) gs [] m) W') ∨ (∃ sp q H, W.heap.size ≤ H ∧ q <+: outsV sp (v := fun q => bitN x q * 15) (fun q => by have := bitN_le x q; show bitN x q * 15 < 16; omega) gs [] m ∧ Jx H q W')) := by
  obtain ⟨i0, hi, hz0, hz1, hz2⟩ := info_parts infoI
  have r16 := ok.r16
  obtain ⟨sa, cap, rfl⟩ : ∃ a cap, sg = .slice a gs.length cap := owns_len hg (nI_length gs)
  have hmk : ∀ (c : Nat) (W : World), c ≤ 32 → (Instr.makeSlice 55 (.int .i64 (c : Int)) (.int .i64 (c : Int))).run Try.prog W = .ok (.slice (some ⟨W.heap.size, 0, none⟩) c c) (W.alloc (.cells (ints (List.replicate c 0)).toArray 2)) := fun c W hc => by
    have h := run_make (P := Try.prog) W 55 2 i0 (.int .i64 0) Try.underlying55 hi hz0 .i64 .i64 (c : Int) (c : Int) (by omega) (by omega) (by rw [hz2]; omega) (by omega)
    rw [hz1, Nat.mul_one, Int.toNat_natCast, made_zerosV] at h
    simpa using h
  obtain ⟨L, hL⟩ : ∃ L, L = 2 * R := ⟨_, rfl⟩
  have hwL : IntKind.i64.wrap (2 * (R : Int)) = (L : Int) := by rw [wrap64_small (by omega) (by omega)]; omega
  have hmkL := fun W => hmk L W (by omega)
  have hmkm := fun W => hmk m W (by omega)
  have lf : Bf < W.heap.size := cell_lt p0
  have lg : Bg < W.heap.size := cell_lt cg
  have ln : Bn < W.heap.size := cell_lt cn
  have lf0 : ¬ Bf = W.heap.size := by omega
  have lfr0 : ¬ W.heap.size = Bf := by omega
  have lfl0 : Bf < W.heap.size := by omega
  have lf1 : ¬ Bf = W.heap.size + 1 := by omega
  have lfr1 : ¬ W.heap.size + 1 = Bf := by omega
  have lfl1 : Bf < W.heap.size + 1 := by omega
  have lf2 : ¬ Bf = W.heap.size + 1 + 1 := by omega
  have lfr2 : ¬ W.heap.size + 1 + 1 = Bf := by omega
  have lfl2 : Bf < W.heap.size + 1 + 1 := by omega
  have lg0 : ¬ Bg = W.heap.size := by omega
  have lgr0 : ¬ W.heap.size = Bg := by omega
  have lgl0 : Bg < W.heap.size := by omega
  have lg1 : ¬ Bg = W.heap.size + 1 := by omega
  have lgr1 : ¬ W.heap.size + 1 = Bg := by omega
  have lgl1 : Bg < W.heap.size + 1 := by omega
  have lg2 : ¬ Bg = W.heap.size + 1 + 1 := by omega
  have lgr2 : ¬ W.heap.size + 1 + 1 = Bg := by omega
  have lgl2 : Bg < W.heap.size + 1 + 1 := by omega
  have ln0 : ¬ Bn = W.heap.size := by omega
  have lnr0 : ¬ W.heap.size = Bn := by omega
  have lnl0 : Bn < W.heap.size := by omega
  have ln1 : ¬ Bn = W.heap.size + 1 := by omega
  have lnr1 : ¬ W.heap.size + 1 = Bn := by omega
  have lnl1 : Bn < W.heap.size + 1 := by omega
  have ln2 : ¬ Bn = W.heap.size + 1 + 1 := by omega
  have lnr2 : ¬ W.heap.size + 1 + 1 = Bn := by omega
  have lnl2 : Bn < W.heap.size + 1 + 1 := by omega
  have HL := Lib.hid hL
  have HHJ := Lib.hid hj
  have HG := Lib.hid hg
  have HY := Lib.hid hY
  have HGL : Hid (∀ k, (Value.slice sa gs.length cap).ownBlock = some k → k < W.heap.size) := Lib.hid fun k e => (World.ownsRow.lt hg k e).2
  clear hL hmk hj hg hY
  go_enter Try.func243, Try.ntmps243
  go_wp2_with (go_at_call 144; refine (rowCount_is ok.h0 ok.h4 ok.hR _).mono ?_; rintro e w' ⟨rfl, rfl⟩)
  refine Code.wp_mono (Q := fun e a w' => e = .normal ∧ ∃ T U B, a = { tmps := #[.func (.yield l) #[] #[], .pointer (some ⟨Bf, 0, none⟩), .pointer (some ⟨Bg, 0, none⟩), .pointer (some ⟨Bn, 0, none⟩), undef, .int .i64 R, .pointer (some ⟨B, 0, none⟩), undef, undef, undef, undef, .pointer (some ⟨Bf, 0, none⟩), .int .i64 m, .int .i64 R, .int .i64 R, .int .i64 L, .slice (some ⟨T, 0, none⟩) L L, .pointer (some ⟨Bf, 0, none⟩), .int .i64 m, .slice (some ⟨U, 0, none⟩) m m, .slice sa gs.length cap, .agg #[.slice (some ⟨T, 0, none⟩) L L, .slice (some ⟨U, 0, none⟩) m m, .slice sa gs.length cap], undef, undef, undef, undef, undef, undef, undef, undef, undef, undef, undef, undef, undef, undef, undef, undef, undef, undef, undef, undef, undef, undef, undef, undef, undef, undef], defers := [] } ∧ (W.heap.size ≤ T ∧ W.heap.size ≤ U ∧ W.heap.size ≤ B ∧ T ≠ U ∧ B ≠ T ∧ B ≠ U) ∧ (w'.heap[T]? = some (.cells (ints (List.replicate L 0)).toArray 2 (0, 0)) ∧ w'.heap[U]? = some (.cells (ints (List.replicate m 0)).toArray 2 (0, 0)) ∧ w'.heap[B]? = some (.cells #[.slice (some ⟨T, 0, none⟩) L L, .slice (some ⟨U, 0, none⟩) m m, .slice sa gs.length cap] 269 (0, 0))) ∧ Below W.heap.size W w') ?rest ?reg
  case reg =>
    go_region
    all_goals
      obtain ⟨h1, h2, h3, hb⟩ := three_laidV W _ _ _
      refine ⟨rfl, _, _, _, rfl, ⟨?_, ?_, ?_, ?_, ?_, ?_⟩, ⟨?_, ?_, ?_⟩, hb⟩
      all_goals first | omega | exact h1 | exact h2 | exact h3
  case rest =>
  clear lf0 lfr0 lfl0 lf1 lfr1 lfl1 lf2 lfr2 lfl2 lg0 lgr0 lgl0 lg1 lgr1 lgl1 lg2 lgr2 lgl2 ln0 lnr0 lnl0 ln1 lnr1 lnl1 ln2 lnr2 lnl2
  rintro e a w2 ⟨rfl, T, U, B, rfl, ⟨t1, u1, b1, n1, n2, n3⟩, ⟨hT, hU, hBx⟩, hb⟩
  dsimp only
  have ot := own_laidV hT (List.length_replicate (n := L) (a := 0)) (by have := HL.out; omega)
  have ou := own_laidV hU (List.length_replicate (n := m) (a := 0)) (by omega)
  obtain ⟨b0, b1', b2⟩ := cells3_laidV hBx
  have hj2 : ∀ H, W.heap.size ≤ H → J H [] w2 := fun H hH => FirmB.below (hJ H) (HHJ.out H hH) hb
  have q0 := kc hb p0
  have q1 := kc hb p1
  have qn := kc hb cn
  have hg2 := HG.out.below hb
  have sT := (World.ownsRow.lt ot T rfl).2
  have sU := (World.ownsRow.lt ou U rfl).2
  have sB : B < w2.heap.size := cell_lt b0
  have hKw : K ≤ w2.heap.size := Nat.le_trans hK hb.size
  clear hT hU hBx p0 p1 cn cg HHJ HG hmkL hmkm
  go_wp2_with fail
  refine (valuesOf_any ok _).mono ?_
  rintro e w3 ⟨s3, rfl, o3, hb3⟩
  replace ot := ot.below hb3
  replace ou := ou.below hb3
  replace b0 := kc hb3 b0
  replace b1' := kc hb3 b1'
  replace b2 := kc hb3 b2
  have hj3 : ∀ H, W.heap.size ≤ H → J H [] w3 := fun H hH => FirmB.below (hJ H) (hj2 H hH) hb3
  replace q0 := kc hb3 q0
  replace q1 := kc hb3 q1
  replace qn := kc hb3 qn
  have hg3 := hg2.below hb3
  have r0 := ok.r0
  obtain ⟨V, cap3, rfl, hV⟩ : ∃ V cap3, s3 = .slice (some ⟨V, 0, none⟩) R cap3 ∧ w2.heap.size ≤ V := by
    rcases o3.shape with ⟨e, _⟩ | ⟨_, g, c, e, hge, _⟩
    · have := congrArg List.length e; rw [natL_len] at this; simp at this; omega
    · rw [natL_len] at e; exact ⟨g, c, e, hge⟩
  have HO3 := Lib.hid o3
  have HG3 := Lib.hid hg3
  have HOU := Lib.hid ou
  clear hj2 hg2 o3 hg3 ou
  have sz3 := hb3.size
  go_wp2_with fail
  go_loopw [25] (fun k' wr => ∃ k : Nat, k ≤ R ∧ k' = .int .i64 k ∧ Owns wr T (.slice (some ⟨T, 0, none⟩) L L) (setsN (List.replicate L 0) R (fun q => ((bitN x q * 15 : Nat) : Int)) k) ∧ Above (fun k => k ≠ T) w3 wr ∧ (∀ H, w3.heap.size ≤ H → J H [] wr))
    (fun k' _ => R - (intOf k').toNat)
  case atStart => exact ⟨0, Nat.zero_le _, rfl, ot, Above.refl _ _, fun H hH => hj3 H (by omega)⟩
  case round =>
    clear ot hj3
    obtain ⟨k, hk, rfl, hot, hA, hjr⟩ := hrel
    have d0 := cell_above hA (show B ≠ T from n2) b0
    have d1 := cell_above hA (show B ≠ T from n2) b1'
    have d2 := cell_above hA (show B ≠ T from n2) b2
    have dn := cell_above hA (show Bn ≠ T by omega) qn
    have szr := hA.size
    by_cases hlt : k < R
    · have cv : wr.cell? ⟨V, k, none⟩ = some (.int .i64 (bitN x k : Int)) := by
        refine cell_above hA (show V ≠ T by omega) (cell_of_owns HO3.out (by rw [natL_len]) k _ ?_)
        simp [natL, hlt]
      have hlen := setsN_length (List.replicate L 0) R (fun q => ((bitN x q * 15 : Nat) : Int)) k
      rw [List.length_replicate] at hlen
      have hw1 : IntKind.i64.wrap ((R : Int) + (k : Int)) = ((R + k : Nat) : Int) := by rw [wrap64_small (by omega) (by omega)]; push_cast; rfl
      have hRL : R + k < L := by have := HL.out; omega
      obtain ⟨P, hP⟩ : ∃ P, P = R + k := ⟨_, rfl⟩
      rw [← hP] at hw1 hRL
      obtain ⟨u3, c3⟩ : ∃ u, wr.cell? ⟨T, P, none⟩ = some u := by
        have hl : P < (setsN (List.replicate L 0) R (fun q => ((bitN x q * 15 : Nat) : Int)) k).length := by rw [hlen]; exact hRL
        exact ⟨_, cell_of_owns hot (by rw [hlen]) P _ (List.getElem?_eq_getElem hl)⟩
      have f3 : wr.frozen? ⟨T, P, none⟩ = false := by
        exact frozen_ownV hot hlen.symm P
      have HPR := Lib.hid hP
      have HOT := Lib.hid hot
      have HC := Lib.hid (implConstantOf_yes (n := 2) (R := 4) (by decide) (by decide) (by decide) (by decide) (Lib.hid (by decide)) (by decide) (bitN x k) (bitN_le x k))
      obtain ⟨y, hy⟩ : ∃ y, y = bitN x k * 15 := ⟨_, rfl⟩
      have hv15V : (bitN x k : Int) * allN 2 = (y : Int) := by rw [hy, show allN 2 = 15 by decide]; push_cast; rfl
      have HYY := Lib.hid hy
      clear hy
      clear hP hot
      go_wp2_with (go_at_call 245; refine (HC.out _).mono ?_; rintro e w5 ⟨rfl, hb5⟩; rw [hv15V]; have e0 := kc hb5 d0; have e3 := kc hb5 c3; have k3 := kf hb5 c3 f3; have l5 := hb5.size; have lT5 : T < w5.heap.size := cell_lt e3; have lB5 : B < w5.heap.size := cell_lt e0)
      go_roundw
      case rel =>
        refine ⟨k + 1, by omega, by go_num, ?_, ?_, ?_⟩
        · have hst := (owns_set (HOT.out.below hb5) hlen.symm P (y : Int)).below (bnew _ (.cells #[.int .i64 2, .int .i64 (y : Int)] 23))
          have e : (setsN (List.replicate L 0) R (fun q => ((bitN x q * 15 : Nat) : Int)) k).set P (y : Int) = setsN (List.replicate L 0) R (fun q => ((bitN x q * 15 : Nat) : Int)) (k + 1) := by
            rw [setsN, HPR.out, HYY.out]
          rw [e] at hst
          exact hst
        · exact hA.trans ((Above.below hb5).trans ((Above.grown (grownSet w5 T P (.int .i64 (y : Int))) (fun r e h => by cases e; exact h rfl)).trans (Above.below (bnew _ _))))
        · exact fun H hH => (hJ H).alloc _ ((hJ H) _ _ _ _ (FirmB.below (hJ H) (hjr H hH) hb5) (grownSet _ T P _) (fun r e => by cases e; exact ⟨by omega, by omega⟩))
      case measure => simp [intOf]; omega
    · obtain rfl : k = R := by omega
      have hm : SMemV T U L m (setsN (List.replicate L 0) k (fun q => ((bitN x q * 15 : Nat) : Int)) k) (List.replicate m 0) wr :=
        ⟨hot, owns_above HOU.out hA (fun k e => by cases e; exact fun h => n1 h.symm), by rw [setsN_length, List.length_replicate], List.length_replicate⟩
      have hk2 : k = 2 ^ m := by have := ok.he; simpa using this
      have hLm : L = 2 ^ (m + 1) := by rw [HL.out, hk2, Nat.pow_succ, Nat.mul_comm]
      have PA := putFrom_allR (v := fun q => bitN x q * 15) (fun q => by have := bitN_le x q; show bitN x q * 15 < 16; omega) l T U K m N L (S wr.heap.size) (.slice sa gs.length cap) gs (J wr.heap.size) (Jx wr.heap.size) wr.heap.size (hJ _)
        ⟨hLm, m4, by omega, by omega, n1, by omega, by omega, kS _, fun b e => ⟨gS _ (by omega) b e, by have := HGL.out b e; omega, by have := HGL.out b e; omega⟩, g16, gl⟩ (fun pre x W1 h1 h2 h3 h4 => HY.out _ pre x W1 h1 (by omega) h2 h3 h4) m [] [] _ _ wr
        ⟨by simp, hm, fun q hq => by rw [← hk2] at hq ⊢; exact setsN_in _ _ _ _ _ hq (by rw [List.length_replicate, HL.out]; omega), hjr _ (by omega), by simpa using hN, by omega, Nat.le_refl _, owns_above HG3.out hA (fun b e => by have := HGL.out b e; omega), rfl, fun b hb => absurd hb List.not_mem_nil⟩
      have HPA := Lib.hid PA
      have HSZ := Lib.hid (show W.heap.size ≤ wr.heap.size by omega)
      clear PA hm hot hjr hk2 hLm
      go_wp2_with (go_at_call 246; refine HPA.out.mono ?_; rintro e w9 (⟨rfl, _, _, hj9⟩ | ⟨rfl, q, hqp, hq9⟩))
      · go_end0
        exact ⟨⟨_, rfl⟩, .inl ⟨_, _, HSZ.out, hj9⟩⟩
      · go_end0
        exact ⟨⟨_, rfl⟩, .inr ⟨_, q, _, HSZ.out, hqp, by simpa using hq9⟩⟩
end Go.Proofs.Ytdgpjpcdifpllaa

/- NR5:
  The steps' iterator, where a round may write numbers of its own: as a sequence. -/
namespace Go.Proofs.Ytdgpjpcdifpllaa
open Go.RowKit Go.Shelf
set_option linter.unusedVariables false
set_option linter.unusedSimpArgs false

theorem steps_seqR {x R m : Nat} (ok : FOk (m : Int) x R) (m4 : m ≤ 4) (Bf Bg Bn K : Nat) (S : Nat → Nat → Prop) (sg : Value) (gs : List Nat) (g16 : ∀ a, a ∈ gs → a < 16) (gl : gs.length ≤ 16) (kS : ∀ H k, K ≤ k → k < H → S H k)
    (w : World) (gS : ∀ H, w.heap.size ≤ H → ∀ k, sg.ownBlock = some k → S H k) (p0 : w.cell? ⟨Bf, 0, none⟩ = some (.int .i64 (m : Int))) (p1 : w.cell? ⟨Bf, 1, none⟩ = some (.int .i64 (x : Int))) (cg : w.cell? ⟨Bg, 0, none⟩ = some sg) (cn : w.cell? ⟨Bn, 0, none⟩ = some (.int .i64 2)) (hg : Owns w 0 sg (nI gs)) (n : Nat) :
    SeqXB Fence.wide n Try.prog 243 #[.pointer (some ⟨Bf, 0, none⟩), .pointer (some ⟨Bg, 0, none⟩), .pointer (some ⟨Bn, 0, none⟩)] encSV (fun xs => ∃ sp, xs = outsV sp (hv15V x) gs [] m) (fun q => ∃ sp, q <+: outsV sp (hv15V x) gs [] m) (gs.length ^ m) K S (Vis m) w := by
  intro l J Jx W hW hK hJ hJx hY hj
  refine (callsIn_wide.2 (steps1_anyR ok m4 l Bf Bg Bn K S sg gs g16 gl (Nat.le_refl _) J Jx hJ kS W (fun H hH => gS H (Nat.le_trans hW.size hH)) (fun H pre x W h1 h2 h3 h4 h5 => YieldAt.anyDV 1 (hY H pre x W h1 h2 h3 h4 h5)) (kc hW p0) (kc hW p1) (kc hW cg) (kc hW cn) (hg.below hW) hK hj)).mono ?_
  rintro e W' ⟨hv, ⟨sp, H, hH, h⟩ | ⟨sp, q, H, hH, hqp, h⟩⟩
  · exact ⟨hv, .inl ⟨_, H, hH, ⟨sp, rfl⟩, h⟩⟩
  · exact ⟨hv, .inr ⟨q, H, hH, ⟨sp, hqp⟩, h⟩⟩
end Go.Proofs.Ytdgpjpcdifpllaa

/- NR6:
  rowLists' iterator, where a round may write numbers of its own. -/
namespace Go.Proofs.Ytdgpjpcdifpllaa
open Go.RowKit Go.Shelf
attribute [local go_sem] Oper.semAt_some
set_option linter.unusedVariables false
set_option linter.unusedSimpArgs false

set_option maxRecDepth 100000 in
set_option maxHeartbeats 8000000 in
theorem rowLists1_inR {x R m : Nat} (ok : FOk (m : Int) x R) (m4 : m ≤ 4) {P Q : Nat} (hP0 : 0 ≤ (P : Int)) (hP4 : (P : Int) ≤ 4) (Q0 : 0 < Q) (Q16 : Q ≤ 16) (hQr : Hid (rowsN (P : Int) = (Q : Int))) (hQ : Q = 2 ^ P) (l Bf Bn K : Nat) (J Jx : Nat → List OutV → World → Prop) (hJ : ∀ H, FirmB K H (J H)) (hJx : ∀ H, FirmB K H (Jx H))
    (W : World) (p0 : W.cell? ⟨Bf, 0, none⟩ = some (.int .i64 (m : Int))) (p1 : W.cell? ⟨Bf, 1, none⟩ = some (.int .i64 (x : Int))) (r0 : W.cell? ⟨Bn, 0, none⟩ = some (.int .i64 (P : Int))) (hK : K ≤ W.heap.size)
    (hY : ∀ H pre z W1, J H pre W1 → W.heap.size ≤ H → H ≤ W1.heap.size → pre.length < Q ^ m → Vis m K z W1 → YieldAt Fence.wide 1 Try.prog l (encSV z) W1 fun e W' => AboveI K (fun k => (K ≤ k ∧ k < H) ∨ k = Bn) W1 W' ∧ ((e = .returned (.bool true) ∧ J H (pre ++ [z]) W') ∨ (e = .returned (.bool false) ∧ Jx H (pre ++ [z]) W')))
    (hj : ∀ H, W.heap.size ≤ H → J H [] W) :
    CallsIn Fence.wide 3 Try.prog 191 #[.func (.yield l) #[] #[], .pointer (some ⟨Bf, 0, none⟩), .pointer (some ⟨Bn, 0, none⟩)] W fun e W' => (∃ v, e = .returned v) ∧ ((∃ ys H, W.heap.size ≤ H ∧ ys.map keyV = linesL x P Q m ∧ J H ys W') ∨ (∃ pre H, W.heap.size ≤ H ∧ pre.map keyV <+: linesL x P Q m ∧ Jx H pre W')) := by
  refine callsIn_of_wp_marks Try.func191 rfl trivial ?_ rfl
  simp only [Try.ntmps191, List.size_toArray, List.length_cons, List.length_nil, Nat.reduceAdd, Nat.reduceSub, Array.replicate_succ, Array.replicate_zero, List.push_toArray, List.append_toArray, List.nil_append, List.cons_append]
  have lf : Bf < W.heap.size := cell_lt p0
  have ln : Bn < W.heap.size := cell_lt r0
  have hP44 : P ≤ 4 := by omega
  obtain ⟨M, hM⟩ : ∃ M, M = 2 ^ P - 1 := ⟨_, rfl⟩
  have hl1 : ∀ w, Calls Try.prog 194 #[.int .i64 (P : Int)] w fun e w' => e = .returned (.int .i64 (M : Int)) ∧ w = w' := by
    have h := lastRow_is hP0 hP4 Q0 Q16 hQr
    have e : (Q : Int) - 1 = (M : Int) := by omega
    rw [e] at h
    exact h
  have HL1 := Lib.hid hl1
  have HM := Lib.hid hM
  clear hM hl1 hQ
  obtain ⟨V, hV⟩ : ∃ V, W.alloc (.cells #[.func (.yield l) #[] #[]] 231) = V := ⟨_, rfl⟩
  have hb : Below W.heap.size W V := by rw [← hV]; exact bnew _ _
  have hbY : V.heap[W.heap.size]? = some (.cells #[.func (.yield l) #[] #[]] 231 (0, 0)) := by rw [← hV]; exact heap_alloc_new _ _
  have hjV : ∀ H, W.heap.size ≤ H → J H [] V := fun H hH => by rw [← hV]; exact (hJ H).alloc _ (hj H hH)
  have sV : W.heap.size + 1 = V.heap.size := by rw [← hV]; simp
  have hmx : Try.prog.follows .mixedOrders = true := by kernel_rfl
  gi_wp2
  have c0 := kc hb p0
  have c1 := kc hb p1
  have d0 := kc hb r0
  have SV := Lib.hid sV
  try rw [hV]
  clear hV p0 p1 r0 hj sV
  refine wpIn_mono (Q := fun e a w' => match e with | Exit.normal => ∃ X Bc sa cap, a = { tmps := #[.func (.yield l) #[] #[], .pointer (some ⟨Bf, 0, none⟩), .pointer (some ⟨Bn, 0, none⟩), .pointer (some ⟨W.heap.size, 0, none⟩), undef, undef, .agg #[.int .i64 m, .int .i64 x], .int .i64 P, .func (.func 158) #[] #[.pointer (some ⟨Bc, 0, none⟩)], .slice sa Q cap, .func (.func 243) #[] #[.pointer (some ⟨X, 0, none⟩), .pointer (some ⟨X + 1 + 1, 0, none⟩), .pointer (some ⟨X + 1, 0, none⟩)], undef, undef, undef, undef, undef, undef, undef, undef, undef, undef], defers := [] } ∧ Below V.heap.size V w' ∧ Owns w' V.heap.size (.slice sa Q cap) (nI (List.range Q)) ∧ (X + 3 = w'.heap.size ∧ V.heap.size ≤ X) ∧ w'.cell? ⟨X, 0, none⟩ = some (.int .i64 m) ∧ w'.cell? ⟨X, 1, none⟩ = some (.int .i64 x) ∧ w'.cell? ⟨X + 1 + 1, 0, none⟩ = some (.slice sa Q cap) ∧ w'.cell? ⟨X + 1, 0, none⟩ = some (.int .i64 2) | _ => False) ?reg ?rest
  case reg =>
    refine region_wide (fun w' => ((w'.cell? ⟨Bf, 0, none⟩ = some (.int .i64 m) ∧ w'.cell? ⟨Bf, 1, none⟩ = some (.int .i64 x)) ∧ w'.cell? ⟨Bn, 0, none⟩ = some (.int .i64 P)) ∧ Below V.heap.size V w') hmx (by omega) (by rintro ⟨_, _, h⟩; exact h) ?_
    have hHeld : (fun w' => ((w'.cell? ⟨Bf, 0, none⟩ = some (.int .i64 m) ∧ w'.cell? ⟨Bf, 1, none⟩ = some (.int .i64 x)) ∧ w'.cell? ⟨Bn, 0, none⟩ = some (.int .i64 P)) ∧ Below V.heap.size V w') (World.drew V) := ⟨⟨⟨c0, c1⟩, d0⟩, (Below.refl _ _).drew⟩
    change wpAnyH _ _ _ _ _ _ _ _ (World.drew _)
    refine wpAnyH_take (i := 0) (v := ?_) rfl (by kernel_rfl) (by kernel_rfl) (by kernel_rfl) (fun _ _ _ h => h) (Or.inl ⟨by rfl, by intro w hSw; (try dsimp only at hSw); go_simp; try (with_reducible rfl)⟩) (by assumption) ?_
    try simp only [Act.put, List.setIfInBounds_toArray, List.set_cons_zero, List.set_cons_succ, List.getElem_toArray, List.getElem_cons_zero, List.getElem_cons_succ]
    refine wpAnyH_take (i := 1) (v := ?_) rfl (by kernel_rfl) (by kernel_rfl) (by kernel_rfl) (fun _ _ _ h => h) (Or.inl ⟨by rfl, by intro w hSw; (try dsimp only at hSw); go_simp; try (with_reducible rfl)⟩) (by assumption) ?_
    try simp only [Act.put, List.setIfInBounds_toArray, List.set_cons_zero, List.set_cons_succ, List.getElem_toArray, List.getElem_cons_zero, List.getElem_cons_succ]
    refine wpAnyH_ready (rs := [2]) (by kernel_rfl) (by simp) ?_
    refine AllReadyH.cons rfl (fun K hK => ?_) AllReadyH.nil
    go_simp
    refine (rowsOf_any _ _).mono ?_
    rintro e w3 ⟨rfl, rfl⟩
    have cB := (show ((World.drew V).alloc (.cells #[.int .i64 (P : Int)] 2)).cell? ⟨V.heap.size, 0, none⟩ = some (.int .i64 (P : Int)) by simp [go_sem])
    have hb3 := bnew (World.drew V) (.cells #[.int .i64 (P : Int)] 2)
    refine hK _ _ (step_held3 hb3 hHeld) (fun hHeld => ?_)
    clear hK K
    try simp only [Act.put, List.setIfInBounds_toArray, List.set_cons_zero, List.set_cons_succ, List.getElem_toArray, List.getElem_cons_zero, List.getElem_cons_succ]
    refine wpAnyH_ready (rs := [3]) (by kernel_rfl) (by simp) ?_
    refine AllReadyH.cons rfl (fun K hK => ?_) AllReadyH.nil
    go_simp
    refine (collect_rows hP0 hP4 Q0 Q16 hQr V.heap.size _ cB).mono ?_
    rintro e w4 ⟨s4, rfl, o4, hb4⟩
    obtain ⟨sa, cap, rfl⟩ := owns_len o4 (show (nI (List.range Q)).length = Q by rw [nI_length, List.length_range])
    have O4 := Lib.hid o4
    clear o4
    dsimp only
    refine hK _ _ (step_held3 hb4 hHeld) (fun hHeld => ?_)
    clear hK K
    try simp only [Act.put, List.setIfInBounds_toArray, List.set_cons_zero, List.set_cons_succ, List.getElem_toArray, List.getElem_cons_zero, List.getElem_cons_succ]
    refine wpAnyH_ready (rs := [4]) (by kernel_rfl) (by simp) ?_
    refine AllReadyH.cons rfl (fun K hK => ?_) AllReadyH.nil
    go_simp
    refine (stepsOf_anyV _ _ _ _ _ _ _).mono ?_
    rintro e w5 ⟨rfl, rfl⟩
    have hb5 := balloc (balloc (bnew w4 (.cells #[.int .i64 (m : Int), .int .i64 (x : Int)] 23)) (.cells #[.int .i64 2] 2)) (.cells #[.slice sa Q cap] 55)
    refine hK _ _ (step_held3 hb5 hHeld) (fun hHeld => ?_)
    clear hK K
    try simp only [Act.put, List.setIfInBounds_toArray, List.set_cons_zero, List.set_cons_succ, List.getElem_toArray, List.getElem_cons_zero, List.getElem_cons_succ]
    refine wpAnyH_done (by kernel_rfl) ?_ _
    exact ⟨w4.heap.size, V.heap.size, sa, cap, rfl, hHeld.2, ((Owns.mono O4.out (by simp)).below (bnew _ _) |>.below (bnew _ _)).below (bnew _ _), ⟨by simp, by have := hb4.size; simp at this; omega⟩, by simp [go_sem], by simp [go_sem], by simp [go_sem], by simp [go_sem]⟩
  case rest =>
    intro e a w5 hPost
    obtain ⟨rfl, X, Bc, sa, cap, rfl, hb5, o5, ⟨x5, x6⟩, e0, e1, e2, e3⟩ : e = .normal ∧ ∃ X Bc sa cap, a = { tmps := #[.func (.yield l) #[] #[], .pointer (some ⟨Bf, 0, none⟩), .pointer (some ⟨Bn, 0, none⟩), .pointer (some ⟨W.heap.size, 0, none⟩), undef, undef, .agg #[.int .i64 m, .int .i64 x], .int .i64 P, .func (.func 158) #[] #[.pointer (some ⟨Bc, 0, none⟩)], .slice sa Q cap, .func (.func 243) #[] #[.pointer (some ⟨X, 0, none⟩), .pointer (some ⟨X + 1 + 1, 0, none⟩), .pointer (some ⟨X + 1, 0, none⟩)], undef, undef, undef, undef, undef, undef, undef, undef, undef, undef], defers := [] } ∧ Below V.heap.size V w5 ∧ Owns w5 V.heap.size (.slice sa Q cap) (nI (List.range Q)) ∧ (X + 3 = w5.heap.size ∧ V.heap.size ≤ X) ∧ w5.cell? ⟨X, 0, none⟩ = some (.int .i64 m) ∧ w5.cell? ⟨X, 1, none⟩ = some (.int .i64 x) ∧ w5.cell? ⟨X + 1 + 1, 0, none⟩ = some (.slice sa Q cap) ∧ w5.cell? ⟨X + 1, 0, none⟩ = some (.int .i64 2) := by
      cases e <;> first | exact ⟨rfl, hPost⟩ | exact hPost.elim
    clear hPost
    have hj5 : ∀ H, W.heap.size ≤ H → J H [] w5 := fun H hH => FirmB.below (hJ H) (hjV H hH) hb5
    have sV := SV.out
    have s5 := hb5.size
    have hbl : ∀ k, (Value.slice sa Q cap).ownBlock = some k → V.heap.size ≤ k ∧ k < w5.heap.size := fun k e => World.ownsRow.lt o5 k e
    have hmem : ∀ a, a ∈ List.range Q → a < 16 := fun a ha => by have := List.mem_range.1 ha; omega
    have d5 := kc hb5 d0
    have SEQ := steps_seqR ok m4 X (X + 1 + 1) (X + 1) (w5.heap.size + 2) (fun H k => K ≤ k ∧ k < H ∧ k ≠ w5.heap.size + 1) (.slice sa Q cap) (List.range Q) hmem (by rw [List.length_range]; exact Q16) (fun H k hk hH => ⟨by omega, hH, by omega⟩) w5 (fun H hH k e => ⟨by have := hbl k e; omega, by have := hbl k e; omega, by have := hbl k e; omega⟩) e0 e1 e2 e3 (Owns.mono o5 (Nat.zero_le _)) (3 - 1)
    rw [List.length_range] at SEQ
    gi_wp2_with fail
    refine wpIn_rangeFunc_XB (α := OutV) (Vis := Vis m) rfl (by omega) (T := fun H k => K ≤ k ∧ k < H ∧ k ≠ w5.heap.size + 1) (gf := 243) (lb := #[.pointer (some ⟨X, 0, none⟩), .pointer (some ⟨X + 1 + 1, 0, none⟩), .pointer (some ⟨X + 1, 0, none⟩)]) rfl trivial (enters_of Try.func243 (by kernel_rfl) rfl) (fun H h => h.2.2 rfl)
      SEQ (fun x W W' row h hg hr => vis_kept m _ x W W' row h hg hr)
      (Below.refl _ _) (fun _ => rfl)
      (fun H pre W' => J H (pre.map (cutV P)) W' ∧ (W'.heap[W.heap.size]? = some (.cells #[.func (.yield l) #[] #[]] 231 (0, 0)) ∧ W'.cell? ⟨Bn, 0, none⟩ = some (.int .i64 (P : Int))))
      (fun H c pre W' => c = .ret ∧ Jx H (pre.map (cutV P)) W')
      (fun H => FirmB.and (fun pre => (hJ H).mono (by omega) (pre.map (cutV P))) (Firm.toB (Firm.and (firm_block (by omega) _) (firm_cell (by omega))) H))
      (fun H c pre A B row hs hg hr => ⟨hs.1, (hJx H).mono (by omega) _ A B row hs.2 hg hr⟩)
      (fun H hH => ⟨hj5 H (by omega), (hb5.block _ (by omega)).trans hbY, d5⟩)
      (fun z => { tmps := #[.func (.yield l) #[] #[], .pointer (some ⟨Bf, 0, none⟩), .pointer (some ⟨Bn, 0, none⟩), .pointer (some ⟨W.heap.size, 0, none⟩), z.1, .int .i64 (z.2.2.1 : Int), .agg #[.int .i64 m, .int .i64 x], .int .i64 P, .func (.func 158) #[] #[.pointer (some ⟨Bc, 0, none⟩)], .slice sa Q cap, .func (.func 243) #[] #[.pointer (some ⟨X, 0, none⟩), .pointer (some ⟨X + 1 + 1, 0, none⟩), .pointer (some ⟨X + 1, 0, none⟩)], z.1, .int .i64 (z.2.2.1 : Int), undef, undef, undef, undef, undef, undef, undef, undef], defers := [] }) ?assign ?body ?done ?stop
    case assign =>
      intro l' z W' K' hK'
      unfold encSV
      gi_wp2
      exact hK'
    case body =>
      rintro l' H pre z W' ⟨hjp, hy1, hn1⟩ hH1 hH2 hlenp hvis
      have hYP := hY H (pre.map (cutV P)) (cutV P z) W'.drew (FirmB.drew (hJ H) hjp) (by omega) hH2 (by rw [List.length_map]; exact hlenp) ⟨show Owns W'.drew K z.1 (nI z.2.1) from ((Owns.mono hvis.1 (by omega)).below (Below.refl _ _).drew), hvis.2⟩
      obtain ⟨fn, tmps, assign, body, hy, hR⟩ := YieldAt.anyDV (3 - 1 - 1 - 1) hYP
      have cy : W'.cell? ⟨W.heap.size, 0, none⟩ = some (.func (.yield l) #[] #[]) := by simp [World.cell?, hy1]
      have hz := z.2.2.2
      have hand : bits .and .i64 (z.2.2.1 : Int) (M : Int) = (((cutV P z).2.2.1 : Nat) : Int) := by rw [HM.out]; exact and_maskV _ _ hz hP44
      unfold encSV at hy
      have HY1 := Lib.hid hy1
      have HN1 := Lib.hid hn1
      have lY : W.heap.size < W'.heap.size := cell_lt cy
      have FIN := Lib.hid (fun (e : Ending) (W3 : World) (h : AboveI K (fun k => (K ≤ k ∧ k < H) ∨ k = Bn) W'.drew W3 ∧ ((e = .returned (.bool true) ∧ J H (pre.map (cutV P) ++ [cutV P z]) W3) ∨ (e = .returned (.bool false) ∧ Jx H (pre.map (cutV P) ++ [cutV P z]) W3))) =>
        show ∃ b : Bool, e = .returned (.bool b) ∧ (AboveI K (fun k => (K ≤ k ∧ k < H) ∨ k = Bn) W'.drew W3 ∧ (b = true → J H ((pre ++ [z]).map (cutV P)) W3) ∧ (b = false → Jx H ((pre ++ [z]).map (cutV P)) W3)) by
          rw [List.map_append]
          rcases h with ⟨ha, ⟨rfl, h2⟩ | ⟨rfl, h2⟩⟩
          · exact ⟨true, rfl, ha, (fun _ => h2), (fun e => by cases e)⟩
          · exact ⟨false, rfl, ha, (fun e => by cases e), fun _ => h2⟩)
      clear hy1 hYP
      have hzc : (cutV P z).1 = z.1 := rfl
      rw [hzc] at hy
      clear hzc
      generalize (cutV P z).2.2.1 = cz at hand hy
      gi_wp2
      refine wpIn_region_any hmx (wpAnyIn_round (F := Fence.wide) l' (by kernel_rfl) _ _ _ _ ?_)
      change wpAnyIn _ _ _ _ _ _ _ _ _ (World.drew _)
      refine wpAnyIn_take (i := 1) (v := ?_) rfl rfl (by kernel_rfl) (by kernel_rfl) (by kernel_rfl) (fun _ _ _ h => h) ⟨Or.inl ⟨by rfl, by intro w; go_simp; try (with_reducible rfl)⟩, fun _ => rfl⟩ ?_
      refine wpAnyIn_take (i := 2) (v := ?_) rfl rfl (by kernel_rfl) (by kernel_rfl) (by kernel_rfl) (fun _ _ _ h => h) ⟨Or.inl ⟨by rfl, by intro w; go_simp; try (with_reducible rfl)⟩, fun _ => rfl⟩ ?_
      refine wpAnyIn_ready (rs := [0, 3]) (by kernel_rfl) (by simp) ?_
      refine AllReadyIn.cons rfl (fun K hK => ?_) ?_
      · go_simp
        refine hK _ _ ?_
        clear hK K
        refine wpAnyIn_ready (rs := [3]) (by kernel_rfl) (by simp) ?_
        refine AllReadyIn.cons rfl (fun K hK => ?_) ?_
        · go_simp
          refine hK _ _ ?_
          clear hK K
          refine wpAnyIn_ready (rs := [4]) (by kernel_rfl) (by simp) ?_
          refine AllReadyIn.cons rfl (fun K hK => ?_) ?_
          · go_simp
            refine ⟨trivial, ?_⟩
            refine (callsIn_wide.2 (HL1.out _)).mono ?_
            rintro e w' ⟨rfl, rfl⟩
            dsimp only
            refine hK _ _ ?_
            clear hK K
            refine wpAnyIn_take (i := 5) (v := ?_) rfl rfl (by kernel_rfl) (by kernel_rfl) (by kernel_rfl) (fun _ _ _ h => h) ⟨Or.inl ⟨by rfl, by intro w; go_simp; try (with_reducible rfl)⟩, fun _ => rfl⟩ ?_
            refine wpAnyIn_ready (rs := [6]) (by kernel_rfl) (by simp) ?_
            refine AllReadyIn.cons rfl (fun K hK => ?_) ?_
            · go_simp
              refine hR.mono ?_
              rintro e W3 hE
              obtain ⟨b3, rfl, ha, hjt, hjf⟩ := FIN.out e W3 hE
              dsimp only
              refine hK _ _ ?_
              clear hK K
              refine wpAnyIn_take (i := 7) (v := ?_) rfl rfl (by kernel_rfl) (by kernel_rfl) (by kernel_rfl) (fun _ _ _ h => h) ⟨Or.inl ⟨by rfl, by intro w; go_simp; try (with_reducible rfl)⟩, fun _ => rfl⟩ ?_
              refine wpAnyIn_done (by kernel_rfl) ?_ _
              cases b3
              · gi_wp2
                exact ⟨⟨⟨ha.size, fun k o hk h0 hc => (ha.same k (.inr ⟨by omega, o, h0, fun cs z e => by subst e; cases hc⟩) (Array.getElem?_eq_some_iff.1 h0).1).trans h0⟩, ⟨ha.size, fun k hk h0 => ha.same k (hk.imp (fun h => .inl ⟨h.1, h.2.1⟩) (fun h => ⟨by omega, h.2⟩)) h0⟩⟩, rfl, hjf (by first | rfl | trivial)⟩
              · gi_wp2
                exact ⟨⟨⟨ha.size, fun k o hk h0 hc => (ha.same k (.inr ⟨by omega, o, h0, fun cs z e => by subst e; cases hc⟩) (Array.getElem?_eq_some_iff.1 h0).1).trans h0⟩, ⟨ha.size, fun k hk h0 => ha.same k (hk.imp (fun h => .inl ⟨h.1, h.2.1⟩) (fun h => ⟨by omega, h.2⟩)) h0⟩⟩, hjt (by first | rfl | trivial), (ha.same _ (.inl (.inl ⟨hK, by omega⟩)) lY).trans HY1.out, cell_aboveI ha (.inl (.inr rfl)) HN1.out⟩
            exact AllReadyIn.nil
          exact AllReadyIn.nil
        exact AllReadyIn.nil
      refine AllReadyIn.cons rfl (fun K hK => ?_) ?_
      · go_simp
        refine hK _ _ ?_
        clear hK K
        refine wpAnyIn_ready (rs := [0, 4]) (by kernel_rfl) (by simp) ?_
        refine AllReadyIn.cons rfl (fun K hK => ?_) ?_
        · go_simp
          refine hK _ _ ?_
          clear hK K
          refine wpAnyIn_ready (rs := [4]) (by kernel_rfl) (by simp) ?_
          refine AllReadyIn.cons rfl (fun K hK => ?_) ?_
          · go_simp
            refine ⟨trivial, ?_⟩
            refine (callsIn_wide.2 (HL1.out _)).mono ?_
            rintro e w' ⟨rfl, rfl⟩
            dsimp only
            refine hK _ _ ?_
            clear hK K
            refine wpAnyIn_take (i := 5) (v := ?_) rfl rfl (by kernel_rfl) (by kernel_rfl) (by kernel_rfl) (fun _ _ _ h => h) ⟨Or.inl ⟨by rfl, by intro w; go_simp; try (with_reducible rfl)⟩, fun _ => rfl⟩ ?_
            refine wpAnyIn_ready (rs := [6]) (by kernel_rfl) (by simp) ?_
            refine AllReadyIn.cons rfl (fun K hK => ?_) ?_
            · go_simp
              refine hR.mono ?_
              rintro e W3 hE
              obtain ⟨b3, rfl, ha, hjt, hjf⟩ := FIN.out e W3 hE
              dsimp only
              refine hK _ _ ?_
              clear hK K
              refine wpAnyIn_take (i := 7) (v := ?_) rfl rfl (by kernel_rfl) (by kernel_rfl) (by kernel_rfl) (fun _ _ _ h => h) ⟨Or.inl ⟨by rfl, by intro w; go_simp; try (with_reducible rfl)⟩, fun _ => rfl⟩ ?_
              refine wpAnyIn_done (by kernel_rfl) ?_ _
              cases b3
              · gi_wp2
                exact ⟨⟨⟨ha.size, fun k o hk h0 hc => (ha.same k (.inr ⟨by omega, o, h0, fun cs z e => by subst e; cases hc⟩) (Array.getElem?_eq_some_iff.1 h0).1).trans h0⟩, ⟨ha.size, fun k hk h0 => ha.same k (hk.imp (fun h => .inl ⟨h.1, h.2.1⟩) (fun h => ⟨by omega, h.2⟩)) h0⟩⟩, rfl, hjf (by first | rfl | trivial)⟩
              · gi_wp2
                exact ⟨⟨⟨ha.size, fun k o hk h0 hc => (ha.same k (.inr ⟨by omega, o, h0, fun cs z e => by subst e; cases hc⟩) (Array.getElem?_eq_some_iff.1 h0).1).trans h0⟩, ⟨ha.size, fun k hk h0 => ha.same k (hk.imp (fun h => .inl ⟨h.1, h.2.1⟩) (fun h => ⟨by omega, h.2⟩)) h0⟩⟩, hjt (by first | rfl | trivial), (ha.same _ (.inl (.inl ⟨hK, by omega⟩)) lY).trans HY1.out, cell_aboveI ha (.inl (.inr rfl)) HN1.out⟩
            exact AllReadyIn.nil
          exact AllReadyIn.nil
        refine AllReadyIn.cons rfl (fun K hK => ?_) ?_
        · go_simp
          refine ⟨trivial, ?_⟩
          refine (callsIn_wide.2 (HL1.out _)).mono ?_
          rintro e w' ⟨rfl, rfl⟩
          dsimp only
          refine hK _ _ ?_
          clear hK K
          refine wpAnyIn_take (i := 5) (v := ?_) rfl rfl (by kernel_rfl) (by kernel_rfl) (by kernel_rfl) (fun _ _ _ h => h) ⟨Or.inl ⟨by rfl, by intro w; go_simp; try (with_reducible rfl)⟩, fun _ => rfl⟩ ?_
          refine wpAnyIn_ready (rs := [0]) (by kernel_rfl) (by simp) ?_
          refine AllReadyIn.cons rfl (fun K hK => ?_) ?_
          · go_simp
            refine hK _ _ ?_
            clear hK K
            refine wpAnyIn_ready (rs := [6]) (by kernel_rfl) (by simp) ?_
            refine AllReadyIn.cons rfl (fun K hK => ?_) ?_
            · go_simp
              refine hR.mono ?_
              rintro e W3 hE
              obtain ⟨b3, rfl, ha, hjt, hjf⟩ := FIN.out e W3 hE
              dsimp only
              refine hK _ _ ?_
              clear hK K
              refine wpAnyIn_take (i := 7) (v := ?_) rfl rfl (by kernel_rfl) (by kernel_rfl) (by kernel_rfl) (fun _ _ _ h => h) ⟨Or.inl ⟨by rfl, by intro w; go_simp; try (with_reducible rfl)⟩, fun _ => rfl⟩ ?_
              refine wpAnyIn_done (by kernel_rfl) ?_ _
              cases b3
              · gi_wp2
                exact ⟨⟨⟨ha.size, fun k o hk h0 hc => (ha.same k (.inr ⟨by omega, o, h0, fun cs z e => by subst e; cases hc⟩) (Array.getElem?_eq_some_iff.1 h0).1).trans h0⟩, ⟨ha.size, fun k hk h0 => ha.same k (hk.imp (fun h => .inl ⟨h.1, h.2.1⟩) (fun h => ⟨by omega, h.2⟩)) h0⟩⟩, rfl, hjf (by first | rfl | trivial)⟩
              · gi_wp2
                exact ⟨⟨⟨ha.size, fun k o hk h0 hc => (ha.same k (.inr ⟨by omega, o, h0, fun cs z e => by subst e; cases hc⟩) (Array.getElem?_eq_some_iff.1 h0).1).trans h0⟩, ⟨ha.size, fun k hk h0 => ha.same k (hk.imp (fun h => .inl ⟨h.1, h.2.1⟩) (fun h => ⟨by omega, h.2⟩)) h0⟩⟩, hjt (by first | rfl | trivial), (ha.same _ (.inl (.inl ⟨hK, by omega⟩)) lY).trans HY1.out, cell_aboveI ha (.inl (.inr rfl)) HN1.out⟩
            exact AllReadyIn.nil
          exact AllReadyIn.nil
        exact AllReadyIn.nil
      exact AllReadyIn.nil
    case done =>
      rintro D H xs W' hD hD2 hH ⟨sp, rfl⟩ ⟨hjx, _⟩ hKd
      have HW : W.heap.size ≤ H := by omega
      gi_wp2
      refine ⟨by simp, .inl ⟨_, _, rfl, run_takeDeferred hKd, ?_⟩⟩
      exact ⟨_, results_none rfl _ _ _, ⟨_, rfl⟩, .inl ⟨_, H, HW, cutV_outs hP44 sp x Q m, (hJ H).put D _ hjx (by omega) (by omega)⟩⟩
    case stop =>
      rintro D H c pre W' hD hD2 hH ⟨sp, hsp⟩ ⟨rfl, hq⟩ hKd
      have HW : W.heap.size ≤ H := by omega
      gi_wp2
      refine ⟨by simp, .inl ⟨_, _, rfl, run_takeDeferred hKd, ?_⟩⟩
      exact ⟨_, results_none rfl _ _ _, ⟨_, rfl⟩, .inr ⟨_, H, HW, cutV_pref hP44 sp x Q m _ hsp, (hJx H).put D _ hq (by omega) (by omega)⟩⟩

theorem rowLists_seqR {x R m : Nat} (ok : FOk (m : Int) x R) (m4 : m ≤ 4) {P Q : Nat} (hP0 : 0 ≤ (P : Int)) (hP4 : (P : Int) ≤ 4) (Q0 : 0 < Q) (Q16 : Q ≤ 16) (hQr : Hid (rowsN (P : Int) = (Q : Int))) (hQ : Q = 2 ^ P) (Bf Bn K n : Nat)
    (w : World) (p0 : w.cell? ⟨Bf, 0, none⟩ = some (.int .i64 (m : Int))) (p1 : w.cell? ⟨Bf, 1, none⟩ = some (.int .i64 (x : Int))) (r0 : w.cell? ⟨Bn, 0, none⟩ = some (.int .i64 (P : Int))) :
    SeqXB Fence.wide n Try.prog 191 #[.pointer (some ⟨Bf, 0, none⟩), .pointer (some ⟨Bn, 0, none⟩)] encSV (fun ys => ys.map keyV = linesL x P Q m) (fun ys => ys.map keyV <+: linesL x P Q m) (Q ^ m) K (fun H k => (K ≤ k ∧ k < H) ∨ k = Bn) (Vis m) w := by
  intro l J Jx W hW hK hJ hJx hY hj
  exact callsIn_wide.2 (callsIn_wide.1 (rowLists1_inR ok m4 hP0 hP4 Q0 Q16 hQr hQ l Bf Bn K J Jx hJ hJx W (kc hW p0) (kc hW p1) (kc hW r0) hK (fun H pre z W1 h1 h2 h3 h4 h5 => YieldAt.anyDV 1 (hY H pre z W1 h1 h2 h3 h4 h5)) hj))
end Go.Proofs.Ytdgpjpcdifpllaa

/- MK1:
  A function that leaves many ranges over functions behind it; an append of a list that may be none, told where the new list lies. -/
namespace Go.Proofs.Ytdgpjpcdifpllaa
open Go Go.RowKit Go.Shelf
set_option linter.unusedVariables false
set_option linter.unusedSimpArgs false

/-- An append of nothing. -/
theorem run_append_none {P : Program} (w : World) (base : Nat) (t ty e : TypeId) (i : TypeInfo) (size : Nat) (ht : P.underlying t = some (.slice e)) (hi : P.info? e = some i)
    (v : Value) (n : Nat) (xs : List Value) (hown : w.ownsRow base e size v n xs) (c : Nat) : (Builtin.append_ #[t, t] ty #[v, .slice none 0 c]).run P w = .ok v w := by
  rcases hown.2 with ⟨rfl, rfl⟩ | ⟨g, cap, cur, rfl, hbg, hg, hnc, hcm, hcs, htake⟩
  · simp [Builtin.append_, run_underlying ht, sizeOf, typeInfo, hi, Builtin.lenOf, Builtin.firstCells]
  · simp [Builtin.append_, run_underlying ht, sizeOf, typeInfo, hi, Builtin.lenOf, Builtin.firstCells, hnc, storeCells]
/-- An append of a list of one's own, whatever it is: where the new list lies is told. -/
theorem wpListIn_append_src {F : Fence} {nF : Nat} {P : Program} (w : World) {ops : Array Oper} {rest : List Oper} {o : Oper} {a : Act} {Q : Exit → Act → World → Prop} (hgd : o.guard = none) (s x : Operand) (t : TypeId)
    (ho : o.op = .call { callee := .builtin .append, args := #[s, x], argTypes := #[t, t] })
    (base : Nat) (e : TypeId) (i : TypeInfo) (z : Value) (bytes : Nat) (ht : P.underlying t = some (.slice e)) (hi : P.info? e = some i) (hz : i.zero = some z)
    (hsize : i.size = 1) (hby : i.bytes = bytes) (hzs : z.cells.size = 1)
    (v : Value) (n : Nat) (xs : List Value) (hs : a.eval s = v) (hown : w.ownsRow base e 1 v n xs) (b2 : Nat) (vs : Value) (m : Nat) (news : List Value) (hx : a.eval x = vs) (hsrc : w.ownsRow b2 e 1 vs m news) (h1 : ∀ u ∈ news, u.oneCell' = true)
    (h63 : n + m ≤ maxLen) (hbytes : (n + m) * bytes ≤ 140737488355328) (hbase : base ≤ w.heap.size)
    (h : ∀ v' w', w'.ownsRow base e 1 v' (n + m) (xs ++ news) → w.grownBy w' v.ownBlock → (v'.ownBlock = v.ownBlock ∨ v'.ownBlock = some w.heap.size) → wpListIn F nF P ops Q rest (a.put o.dst v') w') :
    wpListIn F nF P ops Q (o :: rest) a w := by
  rcases hsrc.2 with ⟨rfl, rfl⟩ | ⟨g, cap, cur, rfl, hbg, hg, hnc, hcm, hcs, htake⟩
  · have hn : news = [] := List.eq_nil_of_length_eq_zero (by simpa using hsrc.1)
    subst hn
    refine wpListIn_plain hgd fun K hK => ?_
    have hr := run_append_none (P := P) w base t o.type e i 1 ht hi v n xs hown 0
    unfold Oper.wpIn
    refine ⟨by simp [Oper.about, ho, resolve, Target.leads, Sem.run_pure], ?_⟩
    rw [Oper.semAt_plain F _ _ (by rw [ho]; intro c hc'; cases hc')]
    simp [execOp, ho, resolve, invoke, builtin, hs, hx, hr, Result.andThen]
    exact hK _ _ (h v w (by simpa using hown) ⟨rfl, rfl, rfl, Nat.le_refl _, fun _ _ _ => rfl⟩ (.inl rfl))
  · refine wpListIn_append_own_at w hgd s x t ho base e i z 1 bytes ht hi hz hsize hby hzs (by decide) v n xs hs hown ⟨g, 0, none⟩ m cap news hx (by rw [hsrc.1]) (fun j u hj => ?_) h1 h63 hbytes hbase (fun v' w' h1 h2 _ h4 => h v' w' h1 h2 h4)
    have hjl : j < m * 1 := by rw [← hsrc.1]; exact (List.getElem?_eq_some_iff.1 hj).1
    have hc := World.ownsRow.cellAt hsrc j hjl
    rw [show (⟨g, 0, none⟩ : Addr).add j = ⟨g, j, none⟩ by cases j <;> simp [Addr.add], hc]
    exact hj

/-- Lists of different elements lie in different blocks. -/
theorem rows_apart {W : World} {b1 b2 : Nat} {v s : Value} {n m k1 k2 : Nat} {t1 t2 : TypeId} {xs ys : List Value} (h : W.ownsRow b1 t1 k1 v n xs) (hs : W.ownsRow b2 t2 k2 s m ys) (ht : t1 ≠ t2) : v.ownBlock = none ∨ v.ownBlock ≠ s.ownBlock := by
  cases hv : v.ownBlock with
  | none => exact .inl rfl
  | some b =>
    refine .inr fun e => ?_
    obtain ⟨_, ⟨rfl, _⟩ | ⟨g, cap, cur, rfl, _, hc, _⟩⟩ := h
    · simp [Value.ownBlock] at hv
    · obtain ⟨_, ⟨rfl, _⟩ | ⟨g', cap', cur', rfl, _, hc', _⟩⟩ := hs
      · simp [Value.ownBlock] at e
      · simp only [Value.ownBlock, Option.some.injEq] at hv e
        subst hv e
        rw [hc] at hc'
        simp only [Option.some.injEq, Obj.cells.injEq] at hc'
        exact ht hc'.2.1

/-- The marks of ranges over functions that are done. -/
def mkD (D : Nat) : Deferred := { target := .collected D, args := #[] }
/-- What is shut lies at lo or above, and is no cells. -/
structure Shut (lo : Nat) (W W' : World) : Prop where
  below : Below lo W W'
  cells : ∀ (k : Nat) (o : Obj), W.heap[k]? = some o → o.isCells = true → W'.heap[k]? = some o
  size : W'.heap.size = W.heap.size
theorem Shut.refl (lo : Nat) (W : World) : Shut lo W W := ⟨Below.refl _ _, fun _ _ h _ => h, rfl⟩
theorem Shut.cell {lo : Nat} {W W' : World} (h : Shut lo W W') {p : Addr} {v : Value} (hc : W.cell? p = some v) : W'.cell? p = some v := by
  obtain ⟨o, ho, hcl⟩ := cells_of_cell hc
  exact (World.cell?_of_block ((h.cells _ o ho hcl).trans ho.symm)).trans hc
theorem Shut.row {lo : Nat} {W W' : World} (h : Shut lo W W') {base : Nat} {e : TypeId} {size : Nat} {v : Value} {n : Nat} {xs : List Value} (ho : W.ownsRow base e size v n xs) : W'.ownsRow base e size v n xs := by
  obtain ⟨h1, h2 | ⟨g, cap, cur, e1, e2, e3, r⟩⟩ := ho
  · exact ⟨h1, .inl h2⟩
  · exact ⟨h1, .inr ⟨g, cap, cur, e1, e2, h.cells _ _ e3 rfl, r⟩⟩
theorem leaves_marks {F : Fence} {n : Nat} {P : Program} {fn : Func} {tmps : Array Value} {R : Ending → World → Prop} {lo : Nat} : ∀ (Ds : List Nat) (W : World), Ds.Pairwise (· ≠ ·) → (∀ D ∈ Ds, lo ≤ D ∧ W.heap[D]? = some (.deferred (some []))) → lo ≤ W.heap.size →
    (∀ W', Shut lo W W' → LeavesIn F n P fn tmps R [] .returning W') → LeavesInM F n P fn tmps R (Ds.map mkD) .returning W
  | [], W, _, _, _, h => h W (Shut.refl _ _)
  | D :: Ds, W, hp, hd, hlo, h => by
    obtain ⟨hD1, hD2⟩ := hd D (by simp)
    obtain ⟨hp1, hp2⟩ := List.pairwise_cons.1 hp
    refine ⟨by simp, .inl ⟨D, _, rfl, run_takeDeferred hD2, ?_⟩⟩
    refine leaves_marks Ds _ hp2 (fun E hE => ?_) (by simpa using hlo) fun W' hW' => h W' ⟨?_, ?_, ?_⟩
    · obtain ⟨h1, h2⟩ := hd E (List.mem_cons_of_mem _ hE)
      exact ⟨h1, (World.putObj_heap_other (fun e => hp1 E hE e.symm)).trans h2⟩
    · exact ((Below.refl lo W).grown (grownBy_putObj' W D _) hlo (fun r e => by cases e; exact hD1)).trans hW'.below
    · intro k o hk hc
      refine hW'.cells k o ((World.putObj_heap_other (fun e => ?_)).trans hk) hc
      subst e
      rw [hk] at hD2
      cases hD2
      cases hc
    · rw [hW'.size]; simp
end Go.Proofs.Ytdgpjpcdifpllaa

/- CC5:
  For columnTablesOf: lines as a list of numbers. -/
namespace Go.Proofs.Ytdgpjpcdifpllaa
open Go Go.RowKit Go.Shelf
set_option linter.unusedVariables false
set_option linter.unusedSimpArgs false

/-- A line, as it stands in the list of numbers. -/
def lineC (z : List Nat × Nat) : List Int := nI z.1 ++ [(z.2 : Int)]
def flatC (ls : List (List Nat × Nat)) : List Int := ls.flatMap lineC
theorem flatC_snoc (ls : List (List Nat × Nat)) (z : List Nat × Nat) : flatC (ls ++ [z]) = flatC ls ++ lineC z := by simp [flatC]
theorem lineC_len (z : List Nat × Nat) : (lineC z).length = z.1.length + 1 := by simp [lineC, nI]
theorem flatC_len {m : Nat} : ∀ (ls : List (List Nat × Nat)), (∀ z ∈ ls, z.1.length = m) → (flatC ls).length = ls.length * (m + 1)
  | [], _ => by simp [flatC]
  | z :: ls, h => by
    have ih := flatC_len ls fun t ht => h t (List.mem_cons_of_mem _ ht)
    have e : flatC (z :: ls) = lineC z ++ flatC ls := rfl
    rw [e, List.length_append, ih, lineC_len, h z (by simp), List.length_cons, Nat.add_mul]
    omega
theorem flatC_at {m : Nat} : ∀ (ls : List (List Nat × Nat)), (∀ z ∈ ls, z.1.length = m) → ∀ c, c < ls.length → ∀ j, j ≤ m → (flatC ls)[c * (m + 1) + j]? = some (if j < m then (((lnG ls c).1[j]?.getD 0 : Nat) : Int) else ((lnG ls c).2 : Int))
  | [], _, c, hc, _, _ => by simp at hc
  | z :: ls, h, 0, _, j, hj => by
    have hz := h z (by simp)
    have e : flatC (z :: ls) = lineC z ++ flatC ls := rfl
    rw [e, Nat.zero_mul, Nat.zero_add, List.getElem?_append_left (by rw [lineC_len]; omega)]
    unfold lineC lnG
    by_cases hjm : j < m
    · rw [if_pos hjm, List.getElem?_append_left (by simp [nI]; omega)]
      simp [nI, List.getElem?_eq_getElem (show j < z.1.length by omega)]
    · obtain rfl : j = m := by omega
      rw [if_neg hjm, List.getElem?_append_right (by simp [nI]; omega)]
      simp [nI, hz]
  | z :: ls, h, c + 1, hc, j, hj => by
    have ih := flatC_at ls (fun t ht => h t (List.mem_cons_of_mem _ ht)) c (by simpa using hc) j hj
    have hz := h z (by simp)
    have e : flatC (z :: ls) = lineC z ++ flatC ls := rfl
    rw [e, show (c + 1) * (m + 1) + j = (lineC z).length + (c * (m + 1) + j) by rw [lineC_len, hz, Nat.add_mul]; omega, List.getElem?_append_right (by omega), Nat.add_sub_cancel_left, ih]
    simp [lnG]
theorem linesL_mem {x P Q m : Nat} {z : List Nat × Nat} (h : z ∈ linesL x P Q m) : z.1.length = m ∧ (∀ a ∈ z.1, a < Q) ∧ z.2 < 2 ^ P := by
  unfold linesL at h
  obtain ⟨p, hp, rfl⟩ := List.mem_map.1 h
  obtain ⟨h1, h2⟩ := allP_mem.1 hp
  exact ⟨h1, fun a ha => by simpa using h2 a ha, tupV_lt _ _ _⟩

/-- The lines of the member k; the numbers of the first k members' lines; where these end. -/
def lnsK (xs : List (Int × Int)) (P Q k : Nat) : List (List Nat × Nat) := linesL (fget xs k).2.toNat P Q (fget xs k).1.toNat
def numK (xs : List (Int × Int)) (P Q k : Nat) : List Int := (List.range k).flatMap fun j => flatC (lnsK xs P Q j)
theorem numK_succ (xs : List (Int × Int)) (P Q k : Nat) : numK xs P Q (k + 1) = numK xs P Q k ++ flatC (lnsK xs P Q k) := by simp [numK, List.range_succ]
theorem lnsK_len (xs : List (Int × Int)) (P Q k : Nat) : (flatC (lnsK xs P Q k)).length = Q ^ (fget xs k).1.toNat * ((fget xs k).1.toNat + 1) := by
  unfold lnsK
  rw [flatC_len (m := (fget xs k).1.toNat) _ fun z hz => (linesL_mem hz).1, linesL_len]
theorem pow_bound {Q m : Nat} (hQ : Q ≤ 16) (hm : m ≤ 4) : Q ^ m ≤ 65536 := by
  have h1 : Q ^ m ≤ 16 ^ m := Nat.pow_le_pow_left hQ m
  have h2 : 16 ^ m ≤ 16 ^ 4 := Nat.pow_le_pow_right (by decide) hm
  omega
theorem mul_bound {q m : Nat} (hq : q ≤ 65536) (hm : m ≤ 4) : q * (m + 1) ≤ 327680 := by
  have := Nat.mul_le_mul hq (show m + 1 ≤ 5 by omega)
  omega
theorem numK_len {xs : List (Int × Int)} (P : Nat) {Q L : Nat} (hQ : Q ≤ 16) (h : ∀ k, k < L → (fget xs k).1.toNat ≤ 4) : ∀ k, k ≤ L → (numK xs P Q k).length ≤ k * 327680
  | 0, _ => by simp [numK]
  | k + 1, hk => by
    have ih := numK_len P hQ h k (by omega)
    have := mul_bound (pow_bound hQ (h k (by omega))) (h k (by omega))
    rw [numK_succ, List.length_append, lnsK_len]
    omega
theorem numK_pre (xs : List (Int × Int)) (P Q : Nat) {k K : Nat} (h : k ≤ K) : ∃ t, numK xs P Q K = numK xs P Q k ++ t := by
  induction K with
  | zero => exact ⟨[], by simp [show k = 0 by omega]⟩
  | succ K ih =>
    by_cases hk : k ≤ K
    · obtain ⟨t, e⟩ := ih hk
      exact ⟨t ++ flatC (lnsK xs P Q K), by rw [numK_succ, e, List.append_assoc]⟩
    · obtain rfl : k = K + 1 := by omega
      exact ⟨[], by simp⟩

/-- The lines of a member stand in the list of numbers. -/
theorem lnC_of {W : World} {base g cap : Nat} {all pre post : List Int} {ls : List (List Nat × Nat)} {m : Nat} (ho : Owns W base (.slice (some ⟨g, 0, none⟩) all.length cap) all) (he : all = pre ++ flatC ls ++ post)
    (hm : ∀ z ∈ ls, z.1.length = m) (hs : ∀ z ∈ ls, (∀ a ∈ z.1, a < 62) ∧ z.2 < 62) : LnC g pre.length m ls W := by
  have cell : ∀ i (v : Int), (flatC ls)[i]? = some v → W.cell? ⟨g, pre.length + i, none⟩ = some (.int .i64 v) := fun i v hi => by
    have hl : i < (flatC ls).length := (List.getElem?_eq_some_iff.1 hi).1
    have e2 : all[pre.length + i]? = some v := by
      rw [he, List.append_assoc, List.getElem?_append_right (by omega), Nat.add_sub_cancel_left, List.getElem?_append_left hl]; exact hi
    rw [World.ownsRow.cellAt ho _ (by have := (List.getElem?_eq_some_iff.1 e2).1; omega)]
    simp only [ints, List.getElem?_map, e2]
    rfl
  have mem : ∀ c, c < ls.length → lnG ls c ∈ ls := fun c hc => by
    unfold lnG
    rw [List.getElem?_eq_getElem hc]
    exact List.getElem_mem hc
  refine ⟨fun c hc => hm _ (mem c hc), fun c hc => hs _ (mem c hc), fun c hc j hj => ?_, fun c hc => ?_⟩
  · rw [Nat.add_assoc]
    have := flatC_at ls hm c hc j (by omega)
    rw [if_pos hj] at this
    exact cell _ _ this
  · rw [Nat.add_assoc]
    have := flatC_at ls hm c hc m (Nat.le_refl _)
    rw [if_neg (by omega)] at this
    exact cell _ _ this

end Go.Proofs.Ytdgpjpcdifpllaa

/- IN1:
  Instances in memory: lists of clauses, each with a list of variables in a block of its own. -/
namespace Go.Proofs.Ytdgpjpcdifpllaa
open Go.RowKit
set_option linter.unusedVariables false
set_option linter.unusedSimpArgs false

/-- A clause: the places and tuples of its relation, and its variables. -/
structure Cl where
  p : Int
  t : Int
  vs : List Int

/-- The cells of a list of clauses; ss are the slices of their variables. -/
def ccells : List Cl → List Value → List Value
  | c :: cs, s :: ss => .int .i64 c.p :: .int .i64 c.t :: s :: ccells cs ss
  | _, _ => []
def cget (cs : List Cl) (k : Nat) : Cl := cs[k]?.getD ⟨0, 0, []⟩
def sget (ss : List Value) (k : Nat) : Value := ss[k]?.getD (.slice none 0 0)
theorem ccells_length : ∀ (cs : List Cl) (ss : List Value), ss.length = cs.length → (ccells cs ss).length = cs.length * 3
  | [], [], _ => rfl
  | [], _ :: _, h => by simp at h
  | _ :: _, [], h => by simp at h
  | c :: cs, s :: ss, h => by
    have := ccells_length cs ss (by simpa using h)
    simp only [ccells, List.length_cons, this]
    omega
theorem ccells_get : ∀ (cs : List Cl) (ss : List Value) (k : Nat), ss.length = cs.length → k < cs.length →
    (ccells cs ss)[k * 3]? = some (.int .i64 (cget cs k).p) ∧ (ccells cs ss)[k * 3 + 1]? = some (.int .i64 (cget cs k).t) ∧ (ccells cs ss)[k * 3 + 2]? = some (sget ss k)
  | [], _, _, _, h => by simp at h
  | _ :: _, [], _, h, _ => by simp at h
  | c :: cs, s :: ss, 0, _, _ => ⟨rfl, rfl, rfl⟩
  | c :: cs, s :: ss, k + 1, h, hk => by
    have := ccells_get cs ss k (by simpa using h) (by simpa using hk)
    rw [show (k + 1) * 3 = k * 3 + 1 + 1 + 1 by omega]
    simpa [ccells, cget, sget] using this
theorem ccells_set3 : ∀ (cs : List Cl) (ss : List Value) (k : Nat) (x y : Int) (z : List Int) (v : Value), ss.length = cs.length → k < cs.length →
    (((ccells cs ss).set (k * 3) (.int .i64 x)).set (k * 3 + 1) (.int .i64 y)).set (k * 3 + 2) v = ccells (cs.set k ⟨x, y, z⟩) (ss.set k v)
  | [], _, _, _, _, _, _, _, h => by simp at h
  | _ :: _, [], _, _, _, _, _, h, _ => by simp at h
  | c :: cs, s :: ss, 0, _, _, _, _, _, _ => rfl
  | c :: cs, s :: ss, k + 1, x, y, z, v, h, hk => by
    have := ccells_set3 cs ss k x y z v (by simpa using h) (by simpa using hk)
    rw [show (k + 1) * 3 = k * 3 + 1 + 1 + 1 by omega]
    simp only [ccells, List.set_cons_succ, this]
theorem ccells_set2 : ∀ (cs : List Cl) (ss : List Value) (k : Nat) (x y : Int) (z : List Int), ss.length = cs.length → k < cs.length →
    ((ccells cs ss).set (k * 3) (.int .i64 x)).set (k * 3 + 1) (.int .i64 y) = ccells (cs.set k ⟨x, y, z⟩) ss
  | [], _, _, _, _, _, _, h => by simp at h
  | _ :: _, [], _, _, _, _, h, _ => by simp at h
  | c :: cs, s :: ss, 0, _, _, _, _, _ => rfl
  | c :: cs, s :: ss, k + 1, x, y, z, h, hk => by
    have := ccells_set2 cs ss k x y z (by simpa using h) (by simpa using hk)
    rw [show (k + 1) * 3 = k * 3 + 1 + 1 + 1 by omega]
    simp only [ccells, List.set_cons_succ, this]
/-- The variables of a clause do not stand in the table's cells. -/
theorem ccells_row : ∀ (cs : List Cl) (ss : List Value) (k : Nat) (z : List Int), ccells (cs.set k ⟨(cget cs k).p, (cget cs k).t, z⟩) ss = ccells cs ss
  | [], ss, k, z => by simp
  | c :: cs, [], 0, z => rfl
  | c :: cs, [], k + 1, z => rfl
  | c :: cs, s :: ss, 0, z => rfl
  | c :: cs, s :: ss, k + 1, z => by
    have := ccells_row cs ss k z
    simp only [List.set_cons_succ, ccells, cget, List.getElem?_cons_succ] at this ⊢
    rw [this]
theorem cget_set_same {cs : List Cl} {k : Nat} (h : k < cs.length) (c : Cl) : cget (cs.set k c) k = c := by simp [cget, h]
theorem cget_set_other {cs : List Cl} {k j : Nat} (h : j ≠ k) (c : Cl) : cget (cs.set k c) j = cget cs j := by
  unfold cget
  rw [List.getElem?_set_ne (by omega)]
theorem sget_set_same {ss : List Value} {k : Nat} (h : k < ss.length) (c : Value) : sget (ss.set k c) k = c := by simp [sget, h]
theorem sget_set_other {ss : List Value} {k j : Nat} (h : j ≠ k) (c : Value) : sget (ss.set k c) j = sget ss j := by
  unfold sget
  rw [List.getElem?_set_ne (by omega)]
theorem cget_app_left {a b : List Cl} {j : Nat} (h : j < a.length) : cget (a ++ b) j = cget a j := by
  unfold cget
  rw [List.getElem?_append_left h]
theorem sget_app_left {a b : List Value} {j : Nat} (h : j < a.length) : sget (a ++ b) j = sget a j := by
  unfold sget
  rw [List.getElem?_append_left h]
theorem cget_app_last {a : List Cl} {c : Cl} : cget (a ++ [c]) a.length = c := by simp [cget]
theorem sget_app_last {a : List Value} {c : Value} : sget (a ++ [c]) a.length = c := by simp [sget]
theorem ccells_snoc : ∀ (cs : List Cl) (ss : List Value) (c : Cl) (v : Value), ss.length = cs.length → ccells (cs ++ [c]) (ss ++ [v]) = ccells cs ss ++ [.int .i64 c.p, .int .i64 c.t, v]
  | [], [], c, v, _ => rfl
  | [], _ :: _, _, _, h => by simp at h
  | _ :: _, [], _, _, h => by simp at h
  | a :: cs, s :: ss, c, v, h => by
    have := ccells_snoc cs ss c v (by simpa using h)
    simp only [List.cons_append, ccells, this]

theorem infoC : (Try.prog.info? 148).map (fun i => (i.zero, i.size, i.bytes)) = some (some (.agg #[.int .i64 0, .int .i64 0, .slice none 0 0]), 3, 40) := by kernel_rfl

/-- What changes lies in blocks from lo on and below hi, or is new. -/
structure Within (lo hi : Nat) (W W' : World) : Prop where
  os : W'.os = W.os
  tape : W'.tape = W.tape
  output : W'.output = W.output
  size : W.heap.size ≤ W'.heap.size
  block : ∀ k, k < W.heap.size → (k < lo ∨ hi ≤ k) → W'.heap[k]? = W.heap[k]?
theorem Within.refl (lo hi : Nat) (W : World) : Within lo hi W W := ⟨rfl, rfl, rfl, Nat.le_refl _, fun _ _ _ => rfl⟩
theorem Within.trans {lo hi : Nat} {A B C : World} (h : Within lo hi A B) (k : Within lo hi B C) : Within lo hi A C :=
  ⟨k.os.trans h.os, k.tape.trans h.tape, k.output.trans h.output, Nat.le_trans h.size k.size, fun j hj hr => (k.block j (Nat.lt_of_lt_of_le hj h.size) hr).trans (h.block j hj hr)⟩
theorem Within.grown {lo hi : Nat} {W W' : World} {row : Option Nat} (h : W.grownBy W' row) (hr : ∀ b, row = some b → lo ≤ b ∧ b < hi) : Within lo hi W W' :=
  ⟨h.os, h.tape, h.output, h.size, fun k hk hk2 => h.block k hk fun e => by have := hr k e.symm; omega⟩
theorem Within.ofBelow {lo hi : Nat} {W W' : World} (h : Below W.heap.size W W') : Within lo hi W W' := ⟨h.os, h.tape, h.output, h.size, fun k hk _ => h.block k hk⟩
theorem Below.within {B lo hi : Nat} {W0 W W' : World} (h : Below B W0 W) (k : Within lo hi W W') (hB : B ≤ lo) (hs : B ≤ W.heap.size) : Below B W0 W' :=
  h.trans ⟨k.os, k.tape, k.output, k.size, fun j hj => k.block j (by omega) (.inl (by omega))⟩
theorem Within.block' {lo hi : Nat} {W W' : World} (h : Within lo hi W W') {b : Nat} (hb : b < W.heap.size) (hr : b < lo ∨ hi ≤ b) : W'.heap[b]? = W.heap[b]? := h.block b hb hr

/-- s is a list of clauses of the call's own, in blocks from lo on and below hi; ss are the slices of their variables, each in a block of its own. -/
structure OC (W : World) (lo hi : Nat) (s : Value) (ss : List Value) (cs : List Cl) : Prop where
  len : ss.length = cs.length
  own : W.ownsRow lo 148 3 s cs.length (ccells cs ss)
  row : ∀ k, k < cs.length → Owns W lo (sget ss k) (cget cs k).vs
  blk : ∀ b, s.ownBlock = some b → b < hi
  rblk : ∀ k b, k < cs.length → (sget ss k).ownBlock = some b → b < hi
  sep : ∀ j k b, j < cs.length → k < cs.length → (sget ss j).ownBlock = some b → (sget ss k).ownBlock = some b → j = k
  top : hi ≤ W.heap.size

theorem ownsRow_same {W W' : World} {base : Nat} {e : TypeId} {size : Nat} {v : Value} {n : Nat} {xs : List Value} (h : W.ownsRow base e size v n xs) (hb : ∀ b, v.ownBlock = some b → W'.heap[b]? = W.heap[b]?) : W'.ownsRow base e size v n xs := by
  obtain ⟨h1, h2 | ⟨g, cap, cur, e1, e2, e3, r⟩⟩ := h
  · exact ⟨h1, .inl h2⟩
  · refine ⟨h1, .inr ⟨g, cap, cur, e1, e2, ?_, r⟩⟩
    rw [hb g (by rw [e1]; rfl)]
    exact e3
theorem OC.same {W W' : World} {lo hi : Nat} {s : Value} {ss : List Value} {cs : List Cl} (h : OC W lo hi s ss cs) (hs : W.heap.size ≤ W'.heap.size) (hb : ∀ b, lo ≤ b → b < hi → b < W.heap.size → W'.heap[b]? = W.heap[b]?) : OC W' lo hi s ss cs :=
  ⟨h.len, ownsRow_same h.own fun b e => hb b (World.ownsRow.lt h.own b e).1 (h.blk b e) (World.ownsRow.lt h.own b e).2,
    fun k hk => ownsRow_same (h.row k hk) fun b e => hb b (World.ownsRow.lt (h.row k hk) b e).1 (h.rblk k b hk e) (World.ownsRow.lt (h.row k hk) b e).2,
    h.blk, h.rblk, h.sep, Nat.le_trans h.top hs⟩
theorem OC.below {W W' : World} {lo hi : Nat} {s : Value} {ss : List Value} {cs : List Cl} (h : OC W lo hi s ss cs) (hb : Below W.heap.size W W') : OC W' lo hi s ss cs :=
  h.same hb.size fun b _ _ h3 => hb.block b h3
/-- .. where another range turned. -/
theorem OC.apart {W W' : World} {lo hi l2 h2 : Nat} {s : Value} {ss : List Value} {cs : List Cl} (h : OC W lo hi s ss cs) (hw : Within l2 h2 W W') (ha : hi ≤ l2 ∨ h2 ≤ lo) : OC W' lo hi s ss cs :=
  h.same hw.size fun b h1 h3 h4 => hw.block b h4 (by omega)
theorem OC.wide {W : World} {lo hi hi' : Nat} {s : Value} {ss : List Value} {cs : List Cl} (h : OC W lo hi s ss cs) (h1 : hi ≤ hi') (h2 : hi' ≤ W.heap.size) : OC W lo hi' s ss cs :=
  ⟨h.len, h.own, h.row, fun b e => Nat.lt_of_lt_of_le (h.blk b e) h1, fun k b hk e => Nat.lt_of_lt_of_le (h.rblk k b hk e) h1, h.sep, h2⟩
theorem OC.full {W : World} {lo hi : Nat} {s : Value} {ss : List Value} {cs : List Cl} (h : OC W lo hi s ss cs) : OC W lo W.heap.size s ss cs := h.wide h.top (Nat.le_refl _)
theorem OC.mono {W : World} {lo lo' hi : Nat} {s : Value} {ss : List Value} {cs : List Cl} (h : OC W lo hi s ss cs) (hl : lo' ≤ lo) : OC W lo' hi s ss cs := by
  refine ⟨h.len, ?_, fun k hk => (h.row k hk).mono hl, h.blk, h.rblk, h.sep, h.top⟩
  obtain ⟨h1, h2 | ⟨g, cap, cur, e1, e2, e3, r⟩⟩ := h.own
  · exact ⟨h1, .inl h2⟩
  · exact ⟨h1, .inr ⟨g, cap, cur, e1, Nat.le_trans hl e2, e3, r⟩⟩
theorem OC.empty (W : World) (lo : Nat) : OC W lo W.heap.size (.slice none 0 0) [] [] :=
  ⟨rfl, World.ownsRow_nil _ _ _ _, fun k hk => absurd hk (by simp), fun b e => by simp [Value.ownBlock] at e, fun k b hk => absurd hk (by simp), fun j k b hj => absurd hj (by simp), Nat.le_refl _⟩

theorem row_obj {W : World} {base : Nat} {e : TypeId} {size : Nat} {v : Value} {n : Nat} {xs : List Value} (h : W.ownsRow base e size v n xs) {b : Nat} (hb : v.ownBlock = some b) : base ≤ b ∧ ∃ cur, W.heap[b]? = some (.cells cur e (0, 0)) := by
  obtain ⟨_, ⟨rfl, _⟩ | ⟨g, cap, cur, rfl, hg, hc, _⟩⟩ := h
  · simp [Value.ownBlock] at hb
  · simp only [Value.ownBlock, Option.some.injEq] at hb
    subst hb
    exact ⟨hg, cur, hc⟩
/-- A clause's variables lie in another block than any table. -/
theorem row_ne {W : World} {b1 b2 : Nat} {v s : Value} {n m k1 k2 : Nat} {xs ys : List Value} (h : W.ownsRow b1 2 k1 v n xs) (hs : W.ownsRow b2 148 k2 s m ys) {b : Nat} (hv : v.ownBlock = some b) : s.ownBlock ≠ some b := by
  intro e
  obtain ⟨_, c1, e1⟩ := row_obj h hv
  obtain ⟨_, c2, e2⟩ := row_obj hs e
  rw [e1] at e2
  simp at e2

/-- The table turned, its rows not. -/
theorem OC.tabled {W W' : World} {lo hi : Nat} {s : Value} {ss : List Value} {cs cs' : List Cl} (h : OC W lo hi s ss cs) (hg : W.grownBy W' s.ownBlock) (hl : cs'.length = cs.length) (ho : W'.ownsRow lo 148 3 s cs.length (ccells cs' ss))
    (hv : ∀ k, k < cs.length → (cget cs' k).vs = (cget cs k).vs) : OC W' lo hi s ss cs' := by
  refine ⟨by rw [h.len, hl], by rw [hl]; exact ho, fun k hk => ?_, h.blk, fun k b hk => h.rblk k b (by omega), fun j k b hj hk => h.sep j k b (by omega) (by omega), Nat.le_trans h.top hg.size⟩
  rw [hv k (by omega)]
  refine World.ownsRow.kept (h.row k (by omega)) hg ?_
  cases he : (sget ss k).ownBlock with
  | none => exact .inl rfl
  | some b => exact .inr fun e => row_ne (h.row k (by omega)) h.own he e.symm
/-- A clause's variables turned. -/
theorem OC.rowed {W W' : World} {lo hi k : Nat} {s : Value} {ss : List Value} {cs : List Cl} {z : List Int} (h : OC W lo hi s ss cs) (hk : k < cs.length) (hg : W.grownBy W' (sget ss k).ownBlock) (ho : Owns W' lo (sget ss k) z) : OC W' lo hi s ss (cs.set k ⟨(cget cs k).p, (cget cs k).t, z⟩) := by
  refine ⟨by rw [h.len]; simp, ?_, fun j hj => ?_, h.blk, fun j b hj => h.rblk j b (by simpa using hj), fun i j b hi hj => h.sep i j b (by simpa using hi) (by simpa using hj), Nat.le_trans h.top hg.size⟩
  · rw [ccells_row, List.length_set]
    refine World.ownsRow.kept h.own hg ?_
    cases he : s.ownBlock with
    | none => exact .inl rfl
    | some b => exact .inr fun e => row_ne (h.row k hk) h.own e.symm he
  · rw [List.length_set] at hj
    by_cases hjk : j = k
    · subst hjk
      rw [cget_set_same hk]
      exact ho
    · rw [cget_set_other hjk]
      refine World.ownsRow.kept (h.row j hj) hg ?_
      cases he : (sget ss j).ownBlock with
      | none => exact .inl rfl
      | some b => exact .inr fun e => hjk (h.sep j k b hj hk he e.symm)

/-- s is a list of clauses that can be read. -/
def AtC (W : World) (s : Value) (cs : List Cl) : Prop :=
  ∃ a cap, s = .slice a cs.length cap ∧ (cs.length = 0 ∨ ∃ g, a = some ⟨g, 0, none⟩ ∧ g < W.heap.size ∧ Hid (∀ k, k < cs.length → ∃ v b, W.cell? ⟨g, k * 3, none⟩ = some (.int .i64 (cget cs k).p) ∧ W.cell? ⟨g, k * 3 + 1, none⟩ = some (.int .i64 (cget cs k).t) ∧ W.cell? ⟨g, k * 3 + 2, none⟩ = some v ∧ Owns W b v (cget cs k).vs))
theorem AtC.below {W W' : World} {s : Value} {cs : List Cl} (h : AtC W s cs) (hb : Below W.heap.size W W') : AtC W' s cs := by
  obtain ⟨a, cap, e, h0 | ⟨g, e2, hg, hr⟩⟩ := h
  · exact ⟨a, cap, e, .inl h0⟩
  · exact ⟨a, cap, e, .inr ⟨g, e2, Nat.lt_of_lt_of_le hg hb.size, Lib.hid fun k hk => by
      obtain ⟨v, b, e3, e4, e5, ho⟩ := hr.out k hk
      exact ⟨v, b, kc hb e3, kc hb e4, kc hb e5, ho.below hb⟩⟩⟩
theorem OC.at {W : World} {lo hi : Nat} {s : Value} {ss : List Value} {cs : List Cl} (h : OC W lo hi s ss cs) : AtC W s cs := by
  by_cases h0 : cs.length = 0
  · obtain ⟨_, ⟨rfl, _⟩ | ⟨g, cap, cur, rfl, _⟩⟩ := h.own
    · exact ⟨none, 0, by rw [h0], .inl h0⟩
    · exact ⟨_, cap, rfl, .inl h0⟩
  · have how := h.own
    obtain ⟨_, ⟨_, hz⟩ | ⟨g, cap, cur, rfl, _, hc, _⟩⟩ := h.own
    · omega
    · refine ⟨_, cap, rfl, .inr ⟨g, rfl, (Array.getElem?_eq_some_iff.1 hc).1, Lib.hid fun k hk => ?_⟩⟩
      obtain ⟨e1, e2, e3⟩ := ccells_get cs ss k h.len hk
      refine ⟨sget ss k, lo, ?_, ?_, ?_, h.row k hk⟩
      · rw [World.ownsRow.cellAt how (k * 3) (by omega)]; exact e1
      · rw [World.ownsRow.cellAt how (k * 3 + 1) (by omega)]; exact e2
      · rw [World.ownsRow.cellAt how (k * 3 + 2) (by omega)]; exact e3
theorem OC.shape {W : World} {lo hi : Nat} {s : Value} {ss : List Value} {cs : List Cl} (h : OC W lo hi s ss cs) :
    (cs = [] ∧ ∃ a cap, s = .slice a 0 cap) ∨ (0 < cs.length ∧ ∃ g cap, s = .slice (some ⟨g, 0, none⟩) cs.length cap ∧ lo ≤ g ∧ g < W.heap.size) := by
  by_cases h0 : cs.length = 0
  · refine .inl ⟨List.length_eq_zero_iff.1 h0, ?_⟩
    obtain ⟨_, ⟨rfl, _⟩ | ⟨g, cap, cur, rfl, _⟩⟩ := h.own
    · exact ⟨_, _, rfl⟩
    · exact ⟨_, _, by rw [h0]⟩
  · refine .inr ⟨by omega, ?_⟩
    obtain ⟨_, ⟨_, hz⟩ | ⟨g, cap, cur, rfl, hb, hc, _⟩⟩ := h.own
    · omega
    · exact ⟨g, cap, rfl, hb, (Array.getElem?_eq_some_iff.1 hc).1⟩
end Go.Proofs.Ytdgpjpcdifpllaa
