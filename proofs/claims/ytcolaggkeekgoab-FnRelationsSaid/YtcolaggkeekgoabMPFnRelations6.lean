/-
  The texts FFnRelations in one.
-/
import Derived.Test.YtcolaggkeekgoabMPFnRelations5

/- FFnRelations:
  The walk of FnRelations. -/
namespace Go.Proofs.Ytcolaggkeekgoab
open Go.RowKit
set_option linter.unusedVariables false
set_option linter.unusedSimpArgs false

set_option maxRecDepth 100000 in
set_option maxHeartbeats 64000000 in
theorem fnRelations_walk {a : Option Addr} {len cap : Nat} (w : World) (C : Code w a len) :
    Calls Try.prog 9 #[.slice a len cap] w fun e w' => e = .returned (.bool true) ∧ Below w.heap.size w w' := by
  by_cases hbig : 4096 < len
  · have hq : decide (4096 < len) = true := by simpa using hbig
    go_enter Try.func9, Try.ntmps9
    go_wp2_with (go_at_call 36; refine (big_ok _).mono ?_; rintro e w' ⟨rfl, rfl⟩)
    go_ret
    exact ⟨rfl, Below.refl _ _⟩
  · have hq : decide (4096 < len) = false := by simpa using hbig
    have hl : len ≤ 1048576 := by omega
    have st0 : Hid (FS w a len [] [] [] w) := Lib.hid ⟨Below.refl _ _, C, fun t h => by simp at h, fun t h => by simp at h, fun t h => by simp at h⟩
    have DR := Lib.hid (drawClosureOf_ok (cap := cap) hl w C)
    clear C
    go_enter Try.func9, Try.ntmps9
    go_wp2_with (go_at_call 36; refine (big_ok _).mono ?_; rintro e w' ⟨rfl, rfl⟩)
    refine DR.out.mono ?_
    rintro e w1 ⟨s3, xs, n, b, rfl, ho, hx, -, hb1⟩
    obtain ⟨a3, c3, rfl, -⟩ := ho.cells
    have hx' : xs.length ≤ 1048576 := by omega
    have st1 := Lib.hid ((st0.out.below hb1).addF ho)
    clear hb1 DR st0 ho hx
    obtain ⟨rn, rb, rc, s2, s1, hc⟩ := closF hx' n b
    have HS1 := Lib.hid s1
    have HS2 := Lib.hid s2
    have HC : Hid (CloSaid xs rn rb rc b) := Lib.hid hc
    clear s1 s2 hc
    obtain ⟨W2, hW2⟩ : ∃ W2, w1.alloc (.cells #[.int .i64 n, .int .i64 b] 36) = W2 := ⟨_, rfl⟩
    have st2 := Lib.hid (st1.out.box n b 36)
    rw [hW2] at st2
    clear st1
    have p0 := (st2.out.B (w1.heap.size, n, b) (by simp)).1
    have p1 := (st2.out.B (w1.heap.size, n, b) (by simp)).2
    go_wp2_with fail
    clear hW2 p0 p1
    refine (HS1.out _ _ _ (st2.out.F (w.heap.size, .slice a3 xs.length c3, xs) (by simp))).mono ?_
    rintro e w3 ⟨rfl, hb3⟩
    have st3 := Lib.hid (st2.out.below hb3)
    clear hb3 st2 HS1
    obtain ⟨W4, hW4⟩ : ∃ W4, w3.alloc (.cells #[.int .i64 rn, .int .i64 rb] 36) = W4 := ⟨_, rfl⟩
    have st4 := Lib.hid (st3.out.box rn rb 36)
    rw [hW4] at st4
    clear st3
    have p0 := (st4.out.B (w1.heap.size, n, b) (by simp)).1
    have p1 := (st4.out.B (w1.heap.size, n, b) (by simp)).2
    go_wp2_with fail
    clear hW4 p0 p1
    refine (HS2.out _ _ _ (st4.out.F (w.heap.size, .slice a3 xs.length c3, xs) (by simp))).mono ?_
    rintro e w5 ⟨rfl, hb5⟩
    have st5 := Lib.hid (st4.out.below hb5)
    clear hb5 st4 HS2
    obtain ⟨W6, hW6⟩ : ∃ W6, w5.alloc (.cells #[.int .i64 rn, .int .i64 rb] 36) = W6 := ⟨_, rfl⟩
    have st6 := Lib.hid (st5.out.box rn rb 36)
    rw [hW6] at st6
    clear st5
    have p0 := (st6.out.B (w1.heap.size, n, b) (by simp)).1
    have p1 := (st6.out.B (w1.heap.size, n, b) (by simp)).2
    have q0 := (st6.out.B (w3.heap.size, rn, rb) (by simp)).1
    have q1 := (st6.out.B (w3.heap.size, rn, rb) (by simp)).2
    have r0 := (st6.out.B (w5.heap.size, rn, rb) (by simp)).1
    have r1 := (st6.out.B (w5.heap.size, rn, rb) (by simp)).2
    have hrc : (rc != rc) = false := by simp
    have hrc2 : (rc == rc) = true := by simp
    have hnn : (rn == rn) = true := by simp
    have hbb : (rb == rb) = true := by simp
    go_upto_region 6 with fail
    try rw [hW6]
    clear hW6
    generalize hB4 : w1.heap.size = B4 at st6 p0 p1 ⊢
    generalize hB5 : w3.heap.size = B5 at st6 q0 q1 ⊢
    generalize hB7 : w5.heap.size = B7 at st6 r0 r1 ⊢
    have st7 := Lib.hid (st6.out.less (L' := [(B4, n, b), (B5, rn, rb)]) (MF' := [(w.heap.size, .slice a3 xs.length c3, xs)]) (MR' := []) (fun t ht => by simp at ht ⊢; rcases ht with h | h <;> simp [h]) (fun t ht => ht) (fun t ht => ht))
    clear st6 hB4 hB5 hB7
    have MK : Hid (∀ Wx : World, Below W6.heap.size W6 Wx → (((Wx.cell? ⟨B4, 0, none⟩ = some (.int .i64 n) ∧ Wx.cell? ⟨B4, 1, none⟩ = some (.int .i64 b)) ∧ (Wx.cell? ⟨B5, 0, none⟩ = some (.int .i64 rn) ∧ Wx.cell? ⟨B5, 1, none⟩ = some (.int .i64 rb)) ∧ (Wx.cell? ⟨B7, 0, none⟩ = some (.int .i64 rn) ∧ Wx.cell? ⟨B7, 1, none⟩ = some (.int .i64 rb))) ∧ Below W6.heap.size W6 Wx)) := Lib.hid fun Wx h => ⟨⟨⟨kc h p0, kc h p1⟩, ⟨kc h q0, kc h q1⟩, ⟨kc h r0, kc h r1⟩⟩, h⟩
    have ST : Hid (∀ V Wx : World, Below V.heap.size V Wx → (((V.cell? ⟨B4, 0, none⟩ = some (.int .i64 n) ∧ V.cell? ⟨B4, 1, none⟩ = some (.int .i64 b)) ∧ (V.cell? ⟨B5, 0, none⟩ = some (.int .i64 rn) ∧ V.cell? ⟨B5, 1, none⟩ = some (.int .i64 rb)) ∧ (V.cell? ⟨B7, 0, none⟩ = some (.int .i64 rn) ∧ V.cell? ⟨B7, 1, none⟩ = some (.int .i64 rb))) ∧ Below W6.heap.size W6 V) → (((Wx.cell? ⟨B4, 0, none⟩ = some (.int .i64 n) ∧ Wx.cell? ⟨B4, 1, none⟩ = some (.int .i64 b)) ∧ (Wx.cell? ⟨B5, 0, none⟩ = some (.int .i64 rn) ∧ Wx.cell? ⟨B5, 1, none⟩ = some (.int .i64 rb)) ∧ (Wx.cell? ⟨B7, 0, none⟩ = some (.int .i64 rn) ∧ Wx.cell? ⟨B7, 1, none⟩ = some (.int .i64 rb))) ∧ Below W6.heap.size W6 Wx)) := Lib.hid fun V Wx hb h => MK.out Wx (bthen h.2 hb)
    go_region_held3 (fun Wx => (((Wx.cell? ⟨B4, 0, none⟩ = some (.int .i64 n) ∧ Wx.cell? ⟨B4, 1, none⟩ = some (.int .i64 b)) ∧ (Wx.cell? ⟨B5, 0, none⟩ = some (.int .i64 rn) ∧ Wx.cell? ⟨B5, 1, none⟩ = some (.int .i64 rb)) ∧ (Wx.cell? ⟨B7, 0, none⟩ = some (.int .i64 rn) ∧ Wx.cell? ⟨B7, 1, none⟩ = some (.int .i64 rb))) ∧ Below W6.heap.size W6 Wx))
      (first
        | with_reducible exact MK.out _ (Below.refl _ _).drew
        | (with_reducible refine ST.out _ _ hb9 ?_; with_reducible assumption)
        | (with_reducible refine ST.out _ _ hb8 ?_; with_reducible assumption)
        | with_reducible assumption)
      (first
        | (go_at_call 64; with_reducible refine (specIsRelation_any n b _).mono ?_; rintro e w9 ⟨rfl, hb9⟩; have T9 := ST.out _ _ hb9 (by with_reducible assumption))
        | (go_at_call 63; with_reducible refine (IsRelation_any n b _).mono ?_; rintro e w8 ⟨rfl, hb8⟩; have T8 := ST.out _ _ hb8 (by with_reducible assumption)))
    have st9 := Lib.hid (st7.out.below T9.2)
    clear T9 T8 MK ST st7 p0 p1 q0 q1 r0 r1 hb8 hb9
    have hiq : (isR n b != isR n b) = false := by simp
    have DK := Lib.hid (drawKeepsRelation_ok (cap := cap) hl w9 st9.out.C)
    clear hrc hrc2 hnn hbb
    go_wp2_with fail
    clear hiq
    refine DK.out.mono ?_
    rintro e w10 ⟨n1, x1, m1, y1, rfl, hb10⟩
    have st10 := Lib.hid (st9.out.below hb10)
    clear hb10 DK st9
    obtain ⟨W11, hW11⟩ : ∃ W11, (w10.alloc (.cells #[.int .i64 n1, .int .i64 x1] 61)).alloc (.cells #[.int .i64 m1, .int .i64 y1] 36) = W11 := ⟨_, rfl⟩
    have st11 : Hid (FS w a len [(w10.heap.size, n1, x1), (w10.heap.size + 1, m1, y1), (B4, n, b), (B5, rn, rb)] [(w.heap.size, .slice a3 xs.length c3, xs)] [] W11) := Lib.hid (by
      rw [← hW11]
      have := (st10.out.box n1 x1 61).box m1 y1 36
      refine this.less (fun t ht => ?_) (fun t ht => ht) (fun t ht => ht)
      simp at ht ⊢
      rcases ht with rfl | rfl | ht | ht <;> simp [*])
    clear st10
    obtain ⟨rx, rk, s2, s1⟩ := bothKeepsRelation n1 x1 m1 y1
    have HS1 := Lib.hid s1
    have HS2 := Lib.hid s2
    clear s1 s2
    have p0 := (st11.out.B (w10.heap.size, n1, x1) (by simp)).1
    have p1 := (st11.out.B (w10.heap.size, n1, x1) (by simp)).2
    have q0 := (st11.out.B (w10.heap.size + 1, m1, y1) (by simp)).1
    have q1 := (st11.out.B (w10.heap.size + 1, m1, y1) (by simp)).2
    go_wp2_with fail
    clear hW11 p0 p1 q0 q1
    refine (HS1.out _).mono ?_
    rintro e w12 ⟨rfl, hb12⟩
    have st12 := Lib.hid (st11.out.below hb12)
    clear hb12 st11 HS1
    have p0 := (st12.out.B (w10.heap.size, n1, x1) (by simp)).1
    have p1 := (st12.out.B (w10.heap.size, n1, x1) (by simp)).2
    have q0 := (st12.out.B (w10.heap.size + 1, m1, y1) (by simp)).1
    have q1 := (st12.out.B (w10.heap.size + 1, m1, y1) (by simp)).2
    go_wp2_with fail
    clear p0 p1 q0 q1
    refine (HS2.out _).mono ?_
    rintro e w13 ⟨rfl, hb13⟩
    have st13 := Lib.hid ((st12.out.less (L' := [(B4, n, b), (B5, rn, rb)]) (fun t ht => List.mem_cons_of_mem _ (List.mem_cons_of_mem _ ht)) (fun t ht => ht) (fun t ht => ht)).below hb13)
    clear hb13 st12 HS2
    have hrk : (rk != rk) = false := by simp
    have hrx : (rx != rx) = false := by simp
    have DF := Lib.hid (drawFunctionsKeeping_ok (cap := cap) hl w13 st13.out.C)
    go_wp2_with fail
    clear hrk hrx
    refine DF.out.mono ?_
    rintro e w14 ⟨s15, zs, n15, rfl, ho, hz, -, hb14⟩
    obtain ⟨a15, c15, rfl, -⟩ := ho.cells
    have hz' : zs.length ≤ 1048576 := by omega
    have st14 := Lib.hid ((st13.out.below hb14).addR ho)
    clear hb14 DF st13 ho hz
    obtain ⟨ys, rc3, hy, s2, s1, hk⟩ := funF hz' n15
    have HS1 := Lib.hid s1
    have HS2 := Lib.hid s2
    have HK := Lib.hid hk
    clear s1 s2 hk
    go_wp2_with fail
    refine (HS1.out _ _ _ (st14.out.R (w13.heap.size, .slice a15 zs.length c15, zs) (by simp))).mono ?_
    rintro e w15 ⟨s17, rfl, ho, hb15⟩
    obtain ⟨a17, c17, rfl, -⟩ := ho.cells
    have st15 := Lib.hid ((st14.out.below hb15).addF ho)
    clear hb15 st14 ho HS1
    go_wp2_with fail
    refine (HS2.out _ _ _ (st15.out.R (w13.heap.size, .slice a15 zs.length c15, zs) (by simp))).mono ?_
    rintro e w16 ⟨s19, rfl, ho, hb16⟩
    have st16 := Lib.hid (st15.out.below hb16)
    clear hb16 st15 HS2
    have LI := Lib.hid (funcs9_same (xs := ys) (by omega) w16 (st16.out.F (w14.heap.size, .slice a17 ys.length c17, ys) (by simp)) ho)
    clear ho
    have hr3 : (rc3 != rc3) = false := by simp
    go_upto_region 18 with (go_at_call 69; refine LI.out.mono ?_; rintro e w17 ⟨rfl, hb17⟩; have st17 := Lib.hid (st16.out.below hb17); clear hb17 LI st16 hr3)
    have DF := Lib.hid (drawRelationsKept_ok (cap := cap) hl w17 st17.out.C)
    go_wp2_with fail
    refine DF.out.mono ?_
    rintro e w18 ⟨s21, us, n21, rfl, ho, hu, -, hb18⟩
    obtain ⟨a21, c21, rfl, -⟩ := ho.cells
    have hu' : us.length ≤ 1048576 := by omega
    have st18 := Lib.hid ((st17.out.below hb18).addF ho)
    clear hb18 DF st17 ho hu
    obtain ⟨rs, rc4, hr, s2, s1, hm⟩ := relF hu' n21
    have HS1 := Lib.hid s1
    have HS2 := Lib.hid s2
    have HM := Lib.hid hm
    clear s1 s2 hm
    go_wp2_with fail
    refine (HS1.out _ _ _ (st18.out.F (w17.heap.size, .slice a21 us.length c21, us) (by simp))).mono ?_
    rintro e w19 ⟨s23, rfl, ho, hb19⟩
    obtain ⟨a23, c23, rfl, -⟩ := ho.cells
    have st19 := Lib.hid ((st18.out.below hb19).addR ho)
    clear hb19 st18 ho HS1
    go_wp2_with fail
    refine (HS2.out _ _ _ (st19.out.F (w17.heap.size, .slice a21 us.length c21, us) (by simp))).mono ?_
    rintro e w20 ⟨s25, rfl, ho, hb20⟩
    have st20 := Lib.hid (st19.out.below hb20)
    clear hb20 st19 HS2
    have LI := Lib.hid (relations9_same (xs := rs) (by omega) w20 (st20.out.R (w18.heap.size, .slice a23 rs.length c23, rs) (by simp)) ho)
    clear ho
    have hr4 : (rc4 != rc4) = false := by simp
    go_upto_region 23 with (go_at_call 73; refine LI.out.mono ?_; rintro e w21 ⟨rfl, hb21⟩; have st21 := Lib.hid (st20.out.below hb21); clear hb21 LI st20 hr4)
    have DF := Lib.hid (drawCountTuples_ok (cap := cap) hl w21 st21.out.C)
    go_wp2_with fail
    refine DF.out.mono ?_
    rintro e w22 ⟨n2, x2, rfl, -, -, hb22⟩
    have st22 := Lib.hid (st21.out.below hb22)
    clear hb22 DF st21
    obtain ⟨W23, hW23⟩ : ∃ W23, w22.alloc (.cells #[.int .i64 n2, .int .i64 x2] 36) = W23 := ⟨_, rfl⟩
    have st23 := Lib.hid (st22.out.box n2 x2 36)
    rw [hW23] at st23
    clear st22
    obtain ⟨ra, rq, s2, s1⟩ := bothCountTuples n2 x2
    have HS1 := Lib.hid s1
    have HS2 := Lib.hid s2
    clear s1 s2
    have p0 := (st23.out.B (w22.heap.size, n2, x2) (by simp)).1
    have p1 := (st23.out.B (w22.heap.size, n2, x2) (by simp)).2
    go_wp2_with fail
    clear hW23 p0 p1
    refine (HS1.out _).mono ?_
    rintro e w24 ⟨rfl, hb24⟩
    have st24 := Lib.hid (st23.out.below hb24)
    clear hb24 st23 HS1
    have p0 := (st24.out.B (w22.heap.size, n2, x2) (by simp)).1
    have p1 := (st24.out.B (w22.heap.size, n2, x2) (by simp)).2
    go_wp2_with fail
    clear p0 p1
    refine (HS2.out _).mono ?_
    rintro e w25 ⟨rfl, hb25⟩
    have st25 := Lib.hid (st24.out.below hb25)
    clear hb25 st24 HS2
    have hra : (ra != ra) = false := by simp
    have hrq : (rq != rq) = false := by simp
    go_upto_region 28 with fail
    refine fr_a (a3 := a3) (a15 := a15) (a17 := a17) (a21 := a21) (a23 := a23) (c3 := c3) (c15 := c15) (c17 := c17) (c21 := c21) (c23 := c23) (z3 := w.heap.size) (z15 := w13.heap.size) (z17 := w14.heap.size) (z21 := w17.heap.size) (z23 := w18.heap.size) hl hx' (by omega) hz' HC HK (by omega) HM (st25.out.less (fun t ht => List.mem_cons_of_mem _ ht) (fun t ht => ?_) (fun t ht => ?_)) (by assumption) (by assumption) _ _ _ _ _ _ _ _ _ _ _ _ _ _ _ _ _ _ _ _ _ _ _ _ _ _ _ _ _ _ _ _ _ _ _ _ _ _ _ _ _ _ _ _ _ _ _ _ _ _ _ _ _ _ _ _ _ _ _ _ _ _ _ _ _ _ _ _ _ _ _ _ _ _ _ _ _ _ _ _ _ _ _ _ _ _ _ _ _ _ _ _ _ _ _ _ _ _ _ _ _ _ _ _ _ _ _ _ _ _ _ _ _ _ _ _ _ _ _ _ _ _ _ _ _ _ _ _ _ _ _ _ _ _ _ _ _ _ _ _ _ _ _ _ _ _ _ _ _ _ _ _ _ _ _ _ _ _ _ _ _ _ _ _ _ _ _ _ _ _ _ _ _ _ _ _ _ _ _ _ _ _ _ _ _ _ _ _ _ _ _ _ _ _ _ _ _ _ _ _ _ _ _ _ _ _ _ _ _ _ _ _ _ _ _ _ _ _ _ _ _ _ _ _ _ _ _ _ _ _ _ _ _ _ _ _ _ _ _ _ _ _ _ _ _ _ _ _ _ _ _ _ _ _ _ _ _ _ _ _ _ _ _ _ _ _ _ _ _ _ _ _ _ _ _ _ _ _ _ _ _ _ _ _ _ _
    · simp at ht ⊢; rcases ht with h | h | h <;> simp [h]
    · simp at ht ⊢; rcases ht with h | h <;> simp [h]
end Go.Proofs.Ytcolaggkeekgoab
