/-
  The texts TU13, TU14, TU15, FProjectRelation in one.
-/
import Derived.Test.YtcolaggkeekgoabMPProjectRelation7
import Derived.Deep.Cut

/- TU13:
  ProjectRelation of the model. -/
namespace Go.Proofs.Ytcolaggkeekgoab
open Go.RowKit
set_option linter.unusedVariables false
set_option linter.unusedSimpArgs false

theorem PermTo.at {n : Nat} {xs : List Int} {m : Nat} (h : PermTo (n : Int) xs m) {k : Nat} (hk : k < m) : ∃ q : Nat, xs[k]?.getD 0 = (q : Int) ∧ q < n ∧ (xs[k]?.getD 0).toNat = q := by
  have := (h k hk).1
  exact ⟨(xs[k]?.getD 0).toNat, by omega, by omega, rfl⟩
theorem pj_step {o b k : Nat} (ho : o < 16) (hb : b ≤ 1) (hk : k < 4) : bits .or .i64 (o : Int) (IntKind.i64.wrap ((b : Int) * 2 ^ k)) = ((o ||| b * 2 ^ k : Nat) : Int) := by
  have key : ∀ k : Nat, k < 4 → ∀ b : Nat, b < 2 → ∀ o : Nat, o < 16 → bits .or .i64 (o : Int) (IntKind.i64.wrap ((b : Int) * 2 ^ k)) = ((o ||| b * 2 ^ k : Nat) : Int) := by decide +kernel
  exact key k hk b (by omega) o ho
theorem sets_step {G m : Nat} (hG : G < 2 ^ 62) (hm : m < 16) : bits .or .i64 (G : Int) (IntKind.i64.wrap (2 ^ m)) = ((G ||| 2 ^ m : Nat) : Int) := by
  have h16 : 2 ^ m < 2 ^ 62 := Nat.pow_lt_pow_right (by decide) (by omega)
  have e4 : (2 : Int) ^ m = ((2 ^ m : Nat) : Int) := by simp
  rw [e4]
  generalize 2 ^ m = q at h16
  rw [wrap64_small (by omega) (by omega)]
  exact bits_or_nat _ _ hG h16
theorem pj_lt16 (ps : List Int) (t : Nat) {k : Nat} (hk : k ≤ 4) : pjN ps t k < 16 :=
  Nat.lt_of_lt_of_le (pj_lt ps t k) (by have : 2 ^ k ≤ 2 ^ 4 := Nat.pow_le_pow_right (by decide) hk; omega)

set_option maxRecDepth 100000 in
set_option maxHeartbeats 8000000 in
theorem specProjectRelation_yes {n Q x : Nat} (ok : ROk (n : Int) x Q) {base : Nat} {s : Value} {xs : List Int} {m : Nat} (hxm : xs.length = m) (hm1 : 1 ≤ m) (hmn : m ≤ n) (hP : PermTo (n : Int) xs m) (w : World) (ho : Owns w base s xs) :
    Calls Try.prog 23 #[.agg #[.int .i64 n, .int .i64 x], s] w fun e w' => e = .returned (.tuple #[.agg #[.int .i64 (m : Int), .int .i64 (pjL xs m (tupsL x Q) (tupsL x Q).length : Int)], .int .i64 0]) ∧ Below w.heap.size w w' := by
  have hn4 : n ≤ 4 := by have := ok.h4; omega
  rcases ho.shape with ⟨e, _⟩ | ⟨_, g, cap, rfl, _, hg, hc, _⟩
  · rw [e] at hxm; simp at hxm; omega
  rw [hxm] at hc ⊢
  have HP := Lib.hid hP
  clear ho hP
  have HXM := Lib.hid hxm
  clear hxm
  have hs1 : IntKind.i64.wrap ((n : Int) - 1) = (n : Int) - 1 := wrap64_small (by omega) (by omega)
  have hd1 : decide ((m : Int) < 1) = false := by simp; omega
  have hd2 : decide ((n : Int) < (m : Int)) = false := by simp; omega
  obtain ⟨W1, hW1, hR⟩ := rel1_new n x w
  have p0 := hR.p0
  have p1 := hR.p1
  have HI := ok.is
  go_enter Try.func23, Try.ntmps23
  go_wp2_with fail
  clear hW1
  refine (l06Is_is HI _).mono ?_
  rintro e w2 ⟨rfl, hb2⟩
  replace hR := hR.below hb2
  clear p0 p1 hb2
  have p0 := hR.p0
  go_wp2
  clear hd1 hd2 p0
  go_loopw [6] (fun i' wr => ∃ i : Nat, i ≤ m ∧ i' = .int .i64 i ∧ Rel1 w.heap.size n x w wr) (fun i' _ => m - (intOf i').toNat)
  case atStart => exact ⟨0, Nat.zero_le _, rfl, hR⟩
  case round =>
    clear hR
    obtain ⟨i, hi, rfl, hR⟩ := hrel
    by_cases hlt : i < m
    · have t1 := (hR.old.cell (p := ⟨g, i, none⟩) hg).trans (hc.out i hlt)
      have p0 := hR.p0
      have hb := (HP.out i hlt).1
      have IN := Lib.hid (fun w => l01In_is (inB_true hb.1 hb.2) w)
      have HNE := Lib.hid (HP.out i hlt).2
      clear hb
      obtain ⟨v, hv⟩ : ∃ v, xs[i]?.getD 0 = v := ⟨_, rfl⟩
      rw [hv] at t1 IN HNE
      have HV := Lib.hid hv
      clear hv
      go_wp2
      go_quiet (first | (go_at_call 79; exact quiet_eq (IN.out _)))
      replace hR := hR.below (below_drewN (Below.refl _ _) nq)
      generalize wr.drewN nq = wq at hR ⊢
      clear t1 p0
      go_wp2
      go_loopw [7] (fun k' wr => ∃ k : Nat, k ≤ i ∧ k' = .int .i64 k ∧ Rel1 w.heap.size n x w wr) (fun k' _ => i - (intOf k').toNat)
      case atStart => exact ⟨0, Nat.zero_le _, rfl, hR⟩
      case round =>
        clear hR
        obtain ⟨k, hk, rfl, hR⟩ := hrel
        by_cases hki : k < i
        · have t1 := (hR.old.cell (p := ⟨g, i, none⟩) hg).trans (hc.out i hlt)
          have t2 := (hR.old.cell (p := ⟨g, k, none⟩) hg).trans (hc.out k (by omega))
          rw [HV.out] at t1
          have he := HNE.out k hki
          generalize xs[k]?.getD 0 = u at t2 he
          have hq2 : (v == u) = false := by simp; omega
          clear he
          go_wp2
          go_quiet (fail)
          replace hR := hR.below (below_drewN (Below.refl _ _) nq)
          generalize wr.drewN nq = wq at hR ⊢
          clear t1 t2
          go_wp2
          go_roundw
          case rel => exact ⟨k + 1, by omega, by go_num, hR⟩
          case measure => simp [intOf]; omega
        · obtain rfl : k = i := by omega
          go_wp2
          go_roundw
          case rel => exact ⟨k + 1, by omega, by go_num, hR⟩
          case measure => simp [intOf]; omega
    · obtain rfl : i = m := by omega
      have C1 : Hid (∀ W, Calls Try.prog 86 #[.agg #[.int .i64 n, .int .i64 (x : Int)]] W fun e w' => ∃ s, e = .returned s ∧ Owns w' W.heap.size s (nI (tupsL x Q)) ∧ Below W.heap.size W w') := Lib.hid (fun W => l06List_any ok.toFOk W)
      have hQ : Q = 2 ^ n := by have := ok.he; simpa using this
      have h16 : 2 ^ n ≤ 2 ^ 4 := Nat.pow_le_pow_right (by decide) hn4
      have HL : Hid (∀ t ∈ tupsL x Q, t < 16) := Lib.hid fun t ht => by have := (tupsL_mem.1 ht).1; rw [hQ] at this; omega
      have hl1 : (tupsL x Q).length ≤ 16 := Nat.le_trans (tupsL_len x Q) ok.r16
      clear hQ h16 ok HI
      have p0 := hR.p0
      have p1 := hR.p1
      go_wp2_with fail
      refine (C1.out _).mono ?_
      rintro e w5 ⟨s1, rfl, O1, hb5⟩
      replace hR := hR.below hb5
      have hlt5 := hR.lt
      obtain ⟨a1, c1, rfl, A1⟩ := ListAt.of (bx := w5.heap.size) O1 (fun k hk => by have := O1.lt k hk; omega)
      clear O1 hb5 p0 p1
      have HR := Lib.hid (hR.below (bnew w5 (.cells #[.int .i64 (i : Int), .int .i64 0] 36)))
      have HA := Lib.hid (A1.below (bnew w5 (.cells #[.int .i64 (i : Int), .int .i64 0] 36)))
      have HX : Hid (BoxA w5.heap.size i 0 (w5.alloc (.cells #[.int .i64 (i : Int), .int .i64 0] 36))) := Lib.hid BoxA.new
      clear hR A1
      go_wp2
      obtain ⟨bx, hbx⟩ : ∃ bx, w5.heap.size = bx := ⟨_, rfl⟩
      have hM0 : IdM w w.heap.size bx n x i (pjL xs i (tupsL x Q) 0) (tupsL x Q) a1 _ := ⟨HR.out, by rw [← hbx]; exact HX.out, by rw [← hbx]; exact HA.out⟩
      generalize w5.alloc (.cells #[.int .i64 (i : Int), .int .i64 0] 36) = W6 at hM0 HR HA HX ⊢
      rw [hbx] at hlt5 ⊢
      clear HR HA HX hbx
      generalize hT : tupsL x Q = l at hl1 HL hM0 ⊢
      have HT := Lib.hid hT
      obtain ⟨L, hL⟩ : ∃ L, l.length = L := ⟨_, rfl⟩
      rw [hL] at hl1 ⊢
      have HE := Lib.hid hL
      clear hL hT hlt
      go_loopw [10] (fun k' wr => ∃ k : Nat, k ≤ L ∧ k' = .int .i64 k ∧ IdM w w.heap.size bx n x i (pjL xs i l k) l a1 wr) (fun k' _ => L - (intOf k').toNat)
      case atStart => exact ⟨0, Nat.zero_le _, rfl, hM0⟩
      case round =>
        clear hM0
        obtain ⟨k, hk, rfl, hM⟩ := hrel
        by_cases hlt : k < L
        · obtain ⟨g1, rfl, hne, hg1, hc1⟩ := (show l.length = 0 ∨ _ from hM.s).resolve_left (by rw [HE.out]; omega)
          have t1 := hc1.out k (by rw [HE.out]; exact hlt)
          have ht := HL.out _ (ngt_mem (show k < l.length by rw [HE.out]; exact hlt))
          have HSU := Lib.hid (pjL_succ (ps := xs) (m := i) (show k < l.length by rw [HE.out]; exact hlt))
          have HG := Lib.hid (pjL_lt (ps := xs) (m := i) (by omega) l k)
          obtain ⟨t, htt⟩ : ∃ t, ngt l k = t := ⟨_, rfl⟩
          rw [htt] at t1 ht HSU
          have HTT := Lib.hid htt
          clear htt
          go_wp2
          go_loopw [11, 12] (fun o' q' wr => ∃ q : Nat, q ≤ i ∧ q' = .int .i64 q ∧ o' = .int .i64 (pjN xs t q : Int) ∧ IdM w w.heap.size bx n x i (pjL xs i l k) l (some ⟨g1, 0, none⟩) wr) (fun _ q' _ => i - (intOf q').toNat)
          case atStart => exact ⟨0, Nat.zero_le _, rfl, rfl, hM⟩
          case round =>
            clear hM t1
            obtain ⟨q, hq, rfl, rfl, hM⟩ := hrel
            by_cases hqi : q < i
            · obtain ⟨g2, e2, _, hg2, hc2⟩ := (show l.length = 0 ∨ _ from hM.s).resolve_left (by rw [HE.out]; omega)
              obtain rfl : g1 = g2 := by simpa using e2
              have t1 := hc2.out k (by rw [HE.out]; exact hlt)
              rw [HTT.out] at t1
              have t2 := (hM.r.old.cell (p := ⟨g, q, none⟩) hg).trans (hc.out q hqi)
              obtain ⟨v, hv, hvn, hvt⟩ := HP.out.at hqi
              have HPS := Lib.hid (pj_succ xs t q)
              rw [hv] at t2
              rw [hvt] at HPS
              have HST := Lib.hid (pj_step (pj_lt16 xs t (show q ≤ 4 by omega)) (bitN_le t v) (show q < 4 by omega))
              rw [← HPS.out] at HST
              have D1 := digit_eq t v (by omega)
              have w1 : IntKind.u64.wrap (v : Int) = (v : Int) := by simp [IntKind.wrap, IntKind.bits, IntKind.signed]; omega
              have w2 : IntKind.u64.wrap (q : Int) = (q : Int) := by simp [IntKind.wrap, IntKind.bits, IntKind.signed]; omega
              generalize hO2 : pjN xs t (q + 1) = o2 at HST
              have HO2 := Lib.hid hO2
              generalize pjN xs t q = o1 at HST ⊢
              have HM := Lib.hid hM
              clear hM hv hvt hc2 e2 HPS hO2
              go_wp2
              go_quiet (fail)
              have HS2 := HST.out
              simp only [← w64] at HS2
              rw [HS2]
              clear HS2
              have HMQ := Lib.hid (HM.out.below (below_drewN (Below.refl _ _) nq))
              generalize wr.drewN nq = wq at HMQ ⊢
              clear t1 t2 D1
              go_wp2
              go_roundw
              case rel => exact ⟨q + 1, by omega, by go_num, by rw [HO2.out], HMQ.out⟩
              case measure => simp [intOf]; omega
            · obtain rfl : q = i := by omega
              have hO := pj_lt16 xs t (show q ≤ 4 by omega)
              have z0 := hM.b.z0
              have z1 := hM.b.z1
              have y1 := hM.b.y1
              have HST := Lib.hid (sets_step (Nat.lt_trans HG.out (by decide)) hO)
              rw [← HSU.out] at HST
              have HMS := Lib.hid (hM.set1 hlt5 (Nat.le_refl _) (pjL xs q l (k + 1)))
              generalize hG2 : pjL xs q l (k + 1) = G2 at HST HMS
              have HG2 := Lib.hid hG2
              generalize pjL xs q l k = G at z1 HST hM
              have w1 : IntKind.u64.wrap (pjN xs t q : Int) = (pjN xs t q : Int) := by simp [IntKind.wrap, IntKind.bits, IntKind.signed]; omega
              generalize pjN xs t q = o1 at hO HST w1 ⊢
              clear hM hG2
              go_wp2
              have HS2 := HST.out
              simp only [← w64] at HS2
              try rw [HS2]
              clear HS2
              go_roundw
              case rel => exact ⟨k + 1, by omega, by go_num, by rw [HG2.out]; exact HMS.out⟩
              case measure => simp [intOf]; omega
        · obtain rfl : k = L := by omega
          have z0 := hM.b.z0
          have z1 := hM.b.z1
          have c0 := hM.r.c0
          have c1 := hM.r.c1
          have f0 := hM.r.f0
          have f1 := hM.r.f1
          have hold := hM.r.old
          generalize hGE : pjL xs i l k = G at z1 ⊢
          have HGE := Lib.hid hGE
          clear hM hGE
          go_wp2
          exact bodyPost_ret (v := .tuple #[.agg #[.int .i64 (i : Int), .int .i64 (G : Int)], .int .i64 0]) (by simp [results, Try.results23, go_sem, c0, c1]) rfl ⟨by rw [HT.out, HE.out, HGE.out], (hold.setCell (p := ⟨w.heap.size + 1, 0, none⟩) (by simp) _).setCell (p := ⟨w.heap.size + 1, 1, none⟩) (by simp) _⟩
end Go.Proofs.Ytcolaggkeekgoab

/- TU14:
  ProjectRelation of the program. -/
namespace Go.Proofs.Ytcolaggkeekgoab
open Go.RowKit
set_option linter.unusedVariables false
set_option linter.unusedSimpArgs false

set_option maxRecDepth 100000 in
set_option maxHeartbeats 4000000 in
theorem implProjectRelation_a {n0 b0 : Int} (h0 : isR n0 b0 = false) (s : Value) (w : World) :
    Calls Try.prog 25 #[.agg #[.int .i64 n0, .int .i64 b0], s] w fun e w' => e = .returned (.tuple #[.agg #[.int .i64 0, .int .i64 0], .int .i64 1]) ∧ Below w.heap.size w w' := by
  obtain ⟨W1, hW1, hR⟩ := rel1_new n0 b0 w
  have p0 := hR.p0
  have p1 := hR.p1
  go_enter Try.func25, Try.ntmps25
  go_wp2_with fail
  clear hW1
  refine (IsRelation_is h0 _).mono ?_
  rintro e w2 ⟨rfl, hb2⟩
  replace hR := hR.below hb2
  clear p0 p1 hb2
  have c0 := hR.c0
  have c1 := hR.c1
  have f0 := hR.f0
  have f1 := hR.f1
  have hold := hR.old
  clear hR
  go_wp2
  exact bodyPost_ret (v := .tuple #[.agg #[.int .i64 0, .int .i64 0], .int .i64 1]) (by simp [results, Try.results25, go_sem, c0, c1]) rfl ⟨rfl, (hold.setCell (p := ⟨w.heap.size + 1, 0, none⟩) (by simp) _).setCell (p := ⟨w.heap.size + 1, 1, none⟩) (by simp) _⟩

set_option maxRecDepth 100000 in
set_option maxHeartbeats 4000000 in
theorem implProjectRelation_b {n : Nat} {b0 : Int} (h0 : isR (n : Int) b0 = true) {base : Nat} {s : Value} {xs : List Int} (hl : xs.length ≤ 1048576) (hm : xs.length = 0 ∨ ¬ PermTo (n : Int) xs xs.length) (w : World) (ho : Owns w base s xs) :
    Calls Try.prog 25 #[.agg #[.int .i64 n, .int .i64 b0], s] w fun e w' => e = .returned (.tuple #[.agg #[.int .i64 0, .int .i64 0], .int .i64 2]) ∧ Below w.heap.size w w' := by
  have hn4 : n ≤ 4 := by have := (isR_iff.1 h0).2.1; omega
  obtain ⟨W1, hW1, hR⟩ := rel1_new n b0 w
  have p0 := hR.p0
  have p1 := hR.p1
  have ADB := fun (hp : ¬ PermTo (n : Int) xs xs.length) W (hb : Below w.heap.size w W) => areDifferentBelow_any hl hn4 false (by simp [hp]) W (ho.below hb)
  obtain ⟨a, cap, rfl⟩ := ho.slice
  by_cases hz : xs.length = 0
  · rw [hz]
    clear ADB ho hm
    go_enter Try.func25, Try.ntmps25
    go_wp2_with fail
    clear hW1
    refine (IsRelation_is h0 _).mono ?_
    rintro e w2 ⟨rfl, hb2⟩
    replace hR := hR.below hb2
    clear p0 p1 hb2
    have c0 := hR.c0
    have c1 := hR.c1
    have f0 := hR.f0
    have f1 := hR.f1
    have hold := hR.old
    clear hR
    go_wp2
    exact bodyPost_ret (v := .tuple #[.agg #[.int .i64 0, .int .i64 0], .int .i64 2]) (by simp [results, Try.results25, go_sem, c0, c1]) rfl ⟨rfl, (hold.setCell (p := ⟨w.heap.size + 1, 0, none⟩) (by simp) _).setCell (p := ⟨w.heap.size + 1, 1, none⟩) (by simp) _⟩
  · have hp := hm.resolve_left hz
    have HAD := Lib.hid (fun W hb => ADB hp W hb)
    clear ADB ho hm hp
    have hq : ((xs.length : Int) == 0) = false := beq_false_of_ne (by omega)
    generalize xs.length = m at hq HAD hz ⊢
    go_enter Try.func25, Try.ntmps25
    go_wp2_with fail
    clear hW1
    refine (IsRelation_is h0 _).mono ?_
    rintro e w2 ⟨rfl, hb2⟩
    replace hR := hR.below hb2
    clear p0 p1 hb2
    have p0 := hR.p0
    have p1 := hR.p1
    go_wp2_with fail
    refine (HAD.out _ hR.old).mono ?_
    rintro e w3 ⟨rfl, hb3⟩
    replace hR := hR.below hb3
    clear p0 p1 hb3
    have c0 := hR.c0
    have c1 := hR.c1
    have f0 := hR.f0
    have f1 := hR.f1
    have hold := hR.old
    clear hR
    go_wp2
    exact bodyPost_ret (v := .tuple #[.agg #[.int .i64 0, .int .i64 0], .int .i64 2]) (by simp [results, Try.results25, go_sem, c0, c1]) rfl ⟨rfl, (hold.setCell (p := ⟨w.heap.size + 1, 0, none⟩) (by simp) _).setCell (p := ⟨w.heap.size + 1, 1, none⟩) (by simp) _⟩
set_option maxRecDepth 100000 in
set_option maxHeartbeats 8000000 in
theorem implProjectRelation_yes {n Q x : Nat} (ok : ROk (n : Int) x Q) {base : Nat} {s : Value} {xs : List Int} {m : Nat} (hxm : xs.length = m) (hm1 : 1 ≤ m) (hmn : m ≤ n) (hP : PermTo (n : Int) xs m) (w : World) (ho : Owns w base s xs) :
    Calls Try.prog 25 #[.agg #[.int .i64 n, .int .i64 x], s] w fun e w' => e = .returned (.tuple #[.agg #[.int .i64 (m : Int), .int .i64 (pjL xs m (tupsL x Q) (tupsL x Q).length : Int)], .int .i64 0]) ∧ Below w.heap.size w w' := by
  obtain ⟨i0, hi, hz0, hz1, hz2⟩ := info_parts infoI
  have hn4 : n ≤ 4 := by have := ok.h4; omega
  have HAD := Lib.hid (fun W (hb : Below w.heap.size w W) => areDifferentBelow_any (by omega) hn4 true (by simp only [true_iff]; rw [hxm]; exact hP) W (ho.below hb))
  rcases ho.shape with ⟨e, _⟩ | ⟨_, g, cap, rfl, _, hg, hc, _⟩
  · rw [e] at hxm; simp at hxm; omega
  rw [hxm] at hc HAD ⊢
  have HP := Lib.hid hP
  clear ho hP
  have HXM := Lib.hid hxm
  clear hxm
  have hq : ((m : Int) == 0) = false := by simp; omega
  obtain ⟨W1, hW1, hR⟩ := rel1_new n x w
  have p0 := hR.p0
  have p1 := hR.p1
  have HI := ok.is
  go_enter Try.func25, Try.ntmps25
  go_wp2_with fail
  clear hW1
  refine (IsRelation_is HI _).mono ?_
  rintro e w2 ⟨rfl, hb2⟩
  replace hR := hR.below hb2
  clear p0 p1 hb2
  have p0 := hR.p0
  have p1 := hR.p1
  go_wp2_with fail
  refine (HAD.out _ hR.old).mono ?_
  rintro e w3 ⟨rfl, hb3⟩
  replace hR := hR.below hb3
  clear p0 p1 hb3 HAD
  have p0 := hR.p0
  have p1 := hR.p1
  have hlt := hR.lt
  have n0 : w.heap.size < w3.heap.size := by omega
  have HR4 := Lib.hid (hR.below (bnew w3 (.cells #[.int .i64 (m : Int), .int .i64 0] 36)))
  have HX4 : Hid (BoxA w3.heap.size m 0 (w3.alloc (.cells #[.int .i64 (m : Int), .int .i64 0] 36))) := Lib.hid BoxA.new
  go_wp2_with fail
  refine (tuplesOf_any ok.toFOk _).mono ?_
  rintro e w5 ⟨s1, rfl, O1, hb5⟩
  obtain ⟨bx, hbx⟩ : ∃ bx, w3.heap.size = bx := ⟨_, rfl⟩
  obtain ⟨a1, c1, rfl, A1⟩ := TListAt.of (bx := bx) O1 (by rw [← hbx]; simp)
  have hR5 := HR4.out.below hb5
  have hX5 := HX4.out.below hb5
  rw [hbx] at hX5 hlt ⊢
  clear n0 hbx HR4 HX4 hR p0 p1 O1 hb5
  have hQ : Q = 2 ^ n := by have := ok.he; simpa using this
  have h16 : 2 ^ n ≤ 2 ^ 4 := Nat.pow_le_pow_right (by decide) hn4
  have HL : Hid (∀ t ∈ tupsL x Q, t < 16) := Lib.hid fun t ht => by have := (tupsL_mem.1 ht).1; rw [hQ] at this; omega
  have hl1 : (tupsL x Q).length ≤ 16 := Nat.le_trans (tupsL_len x Q) ok.r16
  clear hQ h16 ok HI
  generalize hT : tupsL x Q = l at hl1 HL A1 ⊢
  have HT := Lib.hid hT
  obtain ⟨L, hL⟩ : ∃ L, l.length = L := ⟨_, rfl⟩
  rw [hL] at hl1 ⊢
  have HE := Lib.hid hL
  clear hL hT
  have hdl : decide ((L : Int) < 0) = false := by simp
  have hM0 : IdiM w w.heap.size bx n x m (pjL xs m l 0) l a1 w5 := ⟨hR5, hX5, A1⟩
  clear hR5 hX5 A1
  go_wp2
  go_loopw [33] (fun k' wr => ∃ k : Nat, k ≤ L ∧ k' = .int .i64 k ∧ IdiM w w.heap.size bx n x m (pjL xs m l k) l a1 wr) (fun k' _ => L - (intOf k').toNat)
  case atStart => exact ⟨0, Nat.zero_le _, rfl, hM0⟩
  case round =>
    clear hM0
    obtain ⟨k, hk, rfl, hM⟩ := hrel
    by_cases hlt1 : k < L
    · obtain ⟨g1, rfl, hne, hg1, hc1⟩ := (show l.length = 0 ∨ _ from hM.s).resolve_left (by rw [HE.out]; omega)
      have T1 := hc1.out k (by rw [HE.out]; exact hlt1)
      have t0 := T1.c0
      have t1 := T1.c1
      have t2 := T1.c2
      have t3 := T1.c3
      have ht := HL.out _ (ngt_mem (show k < l.length by rw [HE.out]; exact hlt1))
      have HSU := Lib.hid (pjL_succ (ps := xs) (m := m) (show k < l.length by rw [HE.out]; exact hlt1))
      have HG := Lib.hid (pjL_lt (ps := xs) (m := m) (by omega) l k)
      have HJ := Lib.hid (pj_pad xs (ngt l k) (show m ≤ 4 by omega))
      have lX := cell_lt hM.b.z0
      obtain ⟨W8, hW8⟩ : ∃ W8, wr.alloc (.cells #[.int .i64 (bitN (ngt l k) 0 : Int), .int .i64 (bitN (ngt l k) 1 : Int), .int .i64 (bitN (ngt l k) 2 : Int), .int .i64 (bitN (ngt l k) 3 : Int)] 105) = W8 := ⟨_, rfl⟩
      have hb8 : Below wr.heap.size wr W8 := by rw [← hW8]; exact bnew _ _
      have HS8 : Hid (TupAt W8 wr.heap.size 0 (ngt l k)) := Lib.hid (by rw [← hW8]; exact tupAt_new _ _ _)
      have HM8 := Lib.hid (hM.below hb8)
      have l8 : wr.heap.size < W8.heap.size := cell_lt HS8.out.c0
      clear hM hc1 T1
      generalize ngt l k = t at t0 t1 t2 t3 ht HJ HSU hW8 HS8
      go_upto_region 9 with fail
      try rw [hW8]
      clear t0 t1 t2 t3
      go_wp2_with (at_make; refine wpList_make_full _ rfl _ _ 42 rfl W8.heap.size 2 i0 (.int .i64 0) 1 Try.underlying42 hi hz0 hz1 .i64 .i64 _ _ 4 rfl rfl rfl rfl (by rw [hz2]; omega) (by unfold maxLen; omega) (Nat.le_refl _) ?_; intro w1 hown1 hgrow1)
      have hB1 : Below W8.heap.size W8 w1 := (Below.refl _ _).grown hgrow1 (Nat.le_refl _) (fun j e => by cases e)
      rw [show (Value.int .i64 0).cells = #[.int .i64 0] from rfl, toList_madeCells_one, Nat.mul_one] at hown1
      have hA0 : ArrM W8 W8.heap.size (fun j => if j < 0 then bitN t (xs[j]?.getD 0).toNat else 0) w1 :=
        ⟨fun j hj => by rw [World.ownsRow.cellAt hown1 j (by omega), List.getElem?_replicate, if_pos hj]; rfl, fun j hj => World.ownsRow.frozenAt hown1 j, hB1⟩
      have lX8 := cell_lt HM8.out.b.z0
      obtain ⟨b1, hb1⟩ : ∃ b1, wr.heap.size = b1 := ⟨_, rfl⟩
      rw [hb1] at HS8 l8 ⊢
      obtain ⟨gc, hgc⟩ : ∃ gc, W8.heap.size = gc := ⟨_, rfl⟩
      have hg8 : W8.heap.size ≤ gc := Nat.le_of_eq hgc
      rw [hgc] at hA0 ⊢
      clear hb1 hW8 hb8 lX hown1 hgrow1 hB1 hgc
      go_loopw [40] (fun q' wr => ∃ q : Nat, q ≤ m ∧ q' = .int .i64 q ∧ ArrM W8 gc (fun j => if j < q then bitN t (xs[j]?.getD 0).toNat else 0) wr) (fun q' _ => m - (intOf q').toNat)
      case atStart => exact ⟨0, Nat.zero_le _, rfl, hA0⟩
      case round =>
        clear hA0
        obtain ⟨q, hqm, rfl, hA⟩ := hrel
        by_cases hqi : q < m
        · obtain ⟨v, hv, hvn, hvt⟩ := HP.out.at hqi
          have t2 := (hA.old.cell (p := ⟨g, q, none⟩) (by have := HM8.out.r.old.size; show g < W8.heap.size; omega)).trans ((HM8.out.r.old.cell (p := ⟨g, q, none⟩) hg).trans (hc.out q hqi))
          rw [hv] at t2
          have hS := HS8.out.below hA.old
          have e0 : wr.cell? ⟨b1, v, none⟩ = some (.int .i64 (bitN t v : Int)) := by
            rcases (show v = 0 ∨ v = 1 ∨ v = 2 ∨ v = 3 by omega) with rfl | rfl | rfl | rfl
            · exact hS.c0
            · exact hS.c1
            · exact hS.c2
            · exact hS.c3
          have cq := hA.c q (by omega)
          have fq := hA.f q (by omega)
          rw [if_neg (by omega)] at cq
          have HA := Lib.hid (hA.set (e := fun j => if j < q + 1 then bitN t (xs[j]?.getD 0).toNat else 0) hg8 q (by omega) fun j hj => by
            by_cases hji : j = q
            · subst hji; simp
            · by_cases h1 : j < q
              · rw [if_pos (by omega), if_neg hji, if_pos h1]
              · rw [if_neg (by omega), if_neg hji, if_neg h1])
          have hii : (if q < q + 1 then bitN t (xs[q]?.getD 0).toNat else 0) = bitN t v := by rw [if_pos (by omega), hvt]
          simp only [hii] at HA
          have hv4 : (v : Int) < 4 := by omega
          have hq4 : (q : Int) < 4 := by omega
          generalize bitN t v = bt at e0 HA
          clear hA hv hvt hS hii
          go_wp2
          go_roundw
          case rel => exact ⟨q + 1, by omega, by go_num, HA.out⟩
          case measure => simp [intOf]; omega
        · obtain rfl : q = m := by omega
          have hM9 := HM8.out.below hA.old
          have v0 := hA.c 0 (by omega)
          have v1 := hA.c 1 (by omega)
          have v2 := hA.c 2 (by omega)
          have v3 := hA.c 3 (by omega)
          have z0 := hM9.b.z0
          have z1 := hM9.b.z1
          have y0 := hM9.b.y0
          have y1 := hM9.b.y1
          have HM9 := Lib.hid hM9
          have WT0 := fun W => withTuple_any (n := (q : Int)) (y := pjL xs q l k) (Nat.lt_trans HG.out (by decide)) (fun j => if j < q then bitN t (xs[j]?.getD 0).toNat else 0) (fun j _ => by split <;> first | exact bitN_le _ _ | omega) W
          rw [HJ.out, ← HSU.out] at WT0
          unfold arr at WT0
          dsimp only at WT0
          generalize (if (0 : Nat) < q then bitN t (xs[0]?.getD 0).toNat else 0) = d0 at v0 WT0
          generalize (if (1 : Nat) < q then bitN t (xs[1]?.getD 0).toNat else 0) = d1 at v1 WT0
          generalize (if (2 : Nat) < q then bitN t (xs[2]?.getD 0).toNat else 0) = d2 at v2 WT0
          generalize (if (3 : Nat) < q then bitN t (xs[3]?.getD 0).toNat else 0) = d3 at v3 WT0
          have WT := Lib.hid WT0
          have AR := fun w => array_tup gc 4 w
          clear WT0 hM9 hA HS8 HM8 HJ HG HSU
          generalize hG2 : pjL xs q l (k + 1) = G2 at WT
          generalize hG1 : pjL xs q l k = G at WT z1 HM9
          have HG2 := Lib.hid hG2
          clear hG2 hG1
          go_wp2
          go_region_with (go_at_call 89; refine (WT.out _).mono ?_; rintro e w10 ⟨rfl, hb10⟩; have z0' := kc hb10 z0; have z1' := kc hb10 z1; have y0' := kf hb10 z0 y0; have y1' := kf hb10 z1 y1)
          all_goals
            have HM10 := Lib.hid ((HM9.out.below (bthen (Below.refl _ _).drew hb10)).set hlt (Nat.le_refl _) G2)
            clear z0 z1 y0 y1 z0' z1' y0' y1' v0 v1 v2 v3
            go_wp2
            go_roundw
            case rel => exact ⟨k + 1, by omega, by go_num, by rw [HG2.out]; exact HM10.out⟩
            case measure => simp [intOf]; omega
    · obtain rfl : k = L := by omega
      have z0 := hM.b.z0
      have z1 := hM.b.z1
      have c0 := hM.r.c0
      have c1 := hM.r.c1
      have f0 := hM.r.f0
      have f1 := hM.r.f1
      have hold := hM.r.old
      generalize hGE : pjL xs m l k = G at z1 ⊢
      have HGE := Lib.hid hGE
      clear hM hGE
      go_wp2
      exact bodyPost_ret (v := .tuple #[.agg #[.int .i64 (m : Int), .int .i64 (G : Int)], .int .i64 0]) (by simp [results, Try.results25, go_sem, c0, c1]) rfl ⟨by rw [HT.out, HE.out, HGE.out], (hold.setCell (p := ⟨w.heap.size + 1, 0, none⟩) (by simp) _).setCell (p := ⟨w.heap.size + 1, 1, none⟩) (by simp) _⟩
end Go.Proofs.Ytcolaggkeekgoab

/- TU15:
  ProjectRelation in both packages. -/
namespace Go.Proofs.Ytcolaggkeekgoab
open Go.RowKit
set_option linter.unusedVariables false

theorem bothProjectRelation {xs : List Int} (hl : xs.length ≤ 1048576) (n0 b0 : Int) : ∃ rn rb rc : Int,
    (∀ (base : Nat) (s : Value) (w : World), Owns w base s xs → Calls Try.prog 23 #[.agg #[.int .i64 n0, .int .i64 b0], s] w fun e w' => e = .returned (.tuple #[.agg #[.int .i64 rn, .int .i64 rb], .int .i64 rc]) ∧ Below w.heap.size w w') ∧
    (∀ (base : Nat) (s : Value) (w : World), Owns w base s xs → Calls Try.prog 25 #[.agg #[.int .i64 n0, .int .i64 b0], s] w fun e w' => e = .returned (.tuple #[.agg #[.int .i64 rn, .int .i64 rb], .int .i64 rc]) ∧ Below w.heap.size w w') := by
  cases h0 : isR n0 b0
  · exact ⟨_, _, _, fun _ s w _ => specProjectRelation_a h0 s w, fun _ s w _ => implProjectRelation_a h0 s w⟩
  · obtain ⟨x, Q, rfl, ok⟩ := rok h0
    obtain ⟨n, rfl⟩ := Int.eq_ofNat_of_zero_le ok.h0
    have hn4 : n ≤ 4 := by have := ok.h4; omega
    by_cases hz : xs.length = 0
    · exact ⟨_, _, _, fun _ _ w ho => specProjectRelation_b h0 hl (.inl hz) w ho, fun _ _ w ho => implProjectRelation_b h0 hl (.inl hz) w ho⟩
    · by_cases hp : PermTo (n : Int) xs xs.length
      · have hle := perm_le hn4 hp
        exact ⟨_, _, _, fun _ _ w ho => specProjectRelation_yes ok rfl (by omega) hle hp w ho, fun _ _ w ho => implProjectRelation_yes ok rfl (by omega) hle hp w ho⟩
      · by_cases hgt : (n : Int) < (xs.length : Int)
        · exact ⟨_, _, _, fun _ _ w ho => specProjectRelation_b h0 hl (.inr hgt) w ho, fun _ _ w ho => implProjectRelation_b h0 hl (.inr hp) w ho⟩
        · exact ⟨_, _, _, fun _ _ w ho => specProjectRelation_c h0 rfl (by omega) (by omega) hp w ho, fun _ _ w ho => implProjectRelation_b h0 hl (.inr hp) w ho⟩
end Go.Proofs.Ytcolaggkeekgoab

/- FProjectRelation:
  The walk of the law on ProjectRelation: both packages answer alike, and the list that came in is as it was. -/
namespace Go.Proofs.Ytcolaggkeekgoab
open Go.RowKit
set_option linter.unusedVariables false

set_option maxRecDepth 100000 in
set_option maxHeartbeats 4000000 in
theorem fnExactProjectRelation_walk (n0 b0 : Int) (a1 : Option Addr) (len1 cap1 : Nat) (z1 : List Int) (w : World) (_ : (Lit.int .i64 n0).wf = true) (_ : (Lit.int .i64 b0).wf = true) (hr1 : IsRow .i64 w a1 len1 cap1 z1) :
    Calls Try.prog 5 #[.agg #[.int .i64 n0, .int .i64 b0], .slice a1 len1 cap1] w fun e w' => e = .returned (.bool true) ∧ Below w.heap.size w w' := by
  by_cases hle : len1 ≤ 1048576
  · have hxl : (z1.take len1).length ≤ 1048576 := by rw [List.length_take]; omega
    obtain ⟨rn, rb, rc, c1, c2⟩ := bothProjectRelation hxl n0 b0
    have C1 := Lib.hid c1
    have C2 := Lib.hid c2
    have HR := Lib.hid hr1
    have HX := Lib.hid hxl
    clear c1 c2 hr1 hxl
    obtain ⟨W1, hW1⟩ : ∃ W1, (w.alloc (.cells #[.int .i64 n0, .int .i64 b0] 35)) = W1 := ⟨_, rfl⟩
    have p00 : W1.cell? ⟨w.heap.size, 0, none⟩ = some (.int .i64 n0) := by rw [← hW1]; simp [go_sem]
    have p01 : W1.cell? ⟨w.heap.size, 1, none⟩ = some (.int .i64 b0) := by rw [← hW1]; simp [go_sem]
    have hN : Below w.heap.size w W1 := by rw [← hW1]; exact balloc (Below.refl _ _) _
    go_enter Try.func5, Try.ntmps5
    go_wp2_with fail
    clear hW1
    go_wp2_with fail
    refine (toRelation_any n0 b0 _).mono ?_
    rintro e w2 ⟨rfl, hb⟩
    replace hN := bthen hN hb
    have q1_0 := kc hb p00; have q1_1 := kc hb p01
    clear hb p00 p01
    go_wp2_with fail
    have hs_O1 := hN.size
    go_wp2_with fail
    refine (toInt64S_any HR.out hle _ hN).mono ?_
    rintro e w3 ⟨s1, rfl, o, hb⟩
    have O1 := Lib.hid o
    clear o
    replace hN := bthen hN hb
    have q2_0 := kc hb q1_0; have q2_1 := kc hb q1_1
    clear hb q1_0 q1_1
    go_wp2_with fail
    refine (C1.out _ _ _ O1.out).mono ?_
    rintro e w4 ⟨rfl, hb⟩
    replace hN := bthen hN hb
    have q3_0 := kc hb q2_0; have q3_1 := kc hb q2_1
    replace O1 := Lib.hid (O1.out.below hb)
    clear hb q2_0 q2_1
    obtain ⟨W104, hW, r4_0, r4_1, hb⟩ := ansBoxR rn rb w4
    replace hN := bthen hN hb
    have q4_0 := kc hb q3_0; have q4_1 := kc hb q3_1
    replace O1 := Lib.hid (O1.out.below hb)
    clear hb q3_0 q3_1
    clear O1
    go_wp2_with fail
    clear hW
    go_wp2_with fail
    have hs_O2 := hN.size
    go_wp2_with fail
    refine (toInt64S_any HR.out hle _ hN).mono ?_
    rintro e w6 ⟨s2, rfl, o, hb⟩
    have O2 := Lib.hid o
    clear o
    replace hN := bthen hN hb
    have q5_0 := kc hb q4_0; have q5_1 := kc hb q4_1
    have q6_0 := kc hb r4_0; have q6_1 := kc hb r4_1
    clear hb q4_0 q4_1 r4_0 r4_1
    go_wp2_with fail
    refine (toRelation_any n0 b0 _).mono ?_
    rintro e w7 ⟨rfl, hb⟩
    replace hN := bthen hN hb
    have q7_0 := kc hb q5_0; have q7_1 := kc hb q5_1
    have q8_0 := kc hb q6_0; have q8_1 := kc hb q6_1
    replace O2 := Lib.hid (O2.out.below hb)
    clear hb q5_0 q5_1 q6_0 q6_1
    go_wp2_with fail
    refine (C2.out _ _ _ O2.out).mono ?_
    rintro e w8 ⟨rfl, hb⟩
    replace hN := bthen hN hb
    have q9_0 := kc hb q7_0; have q9_1 := kc hb q7_1
    have q10_0 := kc hb q8_0; have q10_1 := kc hb q8_1
    replace O2 := Lib.hid (O2.out.below hb)
    clear hb q7_0 q7_1 q8_0 q8_1
    obtain ⟨W108, hW, r8_0, r8_1, hb⟩ := ansBoxR rn rb w8
    replace hN := bthen hN hb
    have q11_0 := kc hb q9_0; have q11_1 := kc hb q9_1
    have q12_0 := kc hb q10_0; have q12_1 := kc hb q10_1
    replace O2 := Lib.hid (O2.out.below hb)
    clear hb q9_0 q9_1 q10_0 q10_1
    go_wp2_with fail
    clear hW
    go_wp2_with fail
    refine (eqRelation_same _ _ _).mono ?_
    rintro e w10 ⟨rfl, hb⟩
    replace hN := bthen hN hb
    have q13_0 := kc hb q11_0; have q13_1 := kc hb q11_1
    have q14_0 := kc hb q12_0; have q14_1 := kc hb q12_1
    have q15_0 := kc hb r8_0; have q15_1 := kc hb r8_1
    replace O2 := Lib.hid (O2.out.below hb)
    clear hb q11_0 q11_1 q12_0 q12_1 r8_0 r8_1
    go_wp2_with fail
    have lt_O2_O3 := Lib.hid O2.out.lt
    have hs_O3 := hN.size
    go_wp2_with fail
    refine (toInt64S_any HR.out hle _ hN).mono ?_
    rintro e w11 ⟨s3, rfl, o, hb⟩
    have O3 := Lib.hid o
    clear o
    replace hN := bthen hN hb
    have q16_0 := kc hb q13_0; have q16_1 := kc hb q13_1
    have q17_0 := kc hb q14_0; have q17_1 := kc hb q14_1
    have q18_0 := kc hb q15_0; have q18_1 := kc hb q15_1
    replace O2 := Lib.hid (O2.out.below hb)
    clear hb q13_0 q13_1 q14_0 q14_1 q15_0 q15_1
    go_wp2_with fail
    refine (eqInt64S_same (by have := HX.out; omega) _ O2.out O3.out).mono ?_
    rintro e w12 ⟨rfl, hb⟩
    replace hN := bthen hN hb
    have q19_0 := kc hb q16_0; have q19_1 := kc hb q16_1
    have q20_0 := kc hb q17_0; have q20_1 := kc hb q17_1
    have q21_0 := kc hb q18_0; have q21_1 := kc hb q18_1
    replace O2 := Lib.hid (O2.out.below hb)
    replace O3 := Lib.hid (O3.out.below hb)
    clear hb q16_0 q16_1 q17_0 q17_1 q18_0 q18_1
    clear O3
    go_wp2
    go_ret
    exact ⟨rfl, hN⟩
  · clear hr1
    obtain ⟨W1, hW1⟩ : ∃ W1, (w.alloc (.cells #[.int .i64 n0, .int .i64 b0] 35)) = W1 := ⟨_, rfl⟩
    have p00 : W1.cell? ⟨w.heap.size, 0, none⟩ = some (.int .i64 n0) := by rw [← hW1]; simp [go_sem]
    have p01 : W1.cell? ⟨w.heap.size, 1, none⟩ = some (.int .i64 b0) := by rw [← hW1]; simp [go_sem]
    have hN : Below w.heap.size w W1 := by rw [← hW1]; exact balloc (Below.refl _ _) _
    go_enter Try.func5, Try.ntmps5
    go_wp2
    go_ret
    exact ⟨rfl, hN⟩
end Go.Proofs.Ytcolaggkeekgoab
