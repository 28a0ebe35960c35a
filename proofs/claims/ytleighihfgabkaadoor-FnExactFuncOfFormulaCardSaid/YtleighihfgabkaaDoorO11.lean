/-
  Formulas in the model: l05Func.
-/
import Derived.Test.YtleighihfgabkaaDoorO10
namespace Go.Proofs.YtleighihfgabkaaDoor
open Go.RowKit
set_option linter.unusedVariables false
set_option linter.unusedSimpArgs false

def FuncPost (f : Fm) (n : Int) (R : Nat) (w : World) (e : Ending) (w' : World) : Prop := e = .returned (.agg #[.int .i64 n, .int .i64 (sumN f.ev R : Int)]) ∧ Below w.heap.size w w'
set_option maxRecDepth 100000 in
set_option maxHeartbeats 4000000 in
theorem l05Func_leaf {n : Int} {R : Nat} (ok : FOk n 0 R) {c : UInt8} (h : c = 97 ∨ c = 98 ∨ c = 99 ∨ c = 100 ∨ c = 48 ∨ c = 49) (w : World) :
    Calls Tryd.prog 47 #[.int .i64 n, .string (Fm.leaf c).bytes] w (FuncPost (.leaf c) n R w) := by
  have hz0 : 0 < (Fm.leaf c).bytes.size := by rw [Fm.bytes_size]; exact Nat.zero_lt_succ _
  have hhead : (Fm.leaf c).bytes[0] = c := Fm.head_at _ hz0
  have hsz : (Fm.leaf c).bytes.size ≤ 1048576 := by rw [Fm.bytes_size]; show 1 ≤ 1048576; decide
  have K : ∀ v, v ≤ 1 → ∀ u : Nat → Nat, (∀ r, u r = v) → ((v : Nat) * allN n : Int) = (sumN u R : Int) := by
    intro v hv u hu
    rw [← sum_const ok.he hv, sumN_congr R fun r _ => hu r]
  unfold FuncPost
  rcases h with rfl | rfl | rfl | rfl | rfl | rfl
  · exact l05Func_leaf97 ok hz0 hhead hsz w
  · exact l05Func_leaf98 ok hz0 hhead hsz w
  · exact l05Func_leaf99 ok hz0 hhead hsz w
  · exact l05Func_leaf100 ok hz0 hhead hsz w
  · have h := l05Func_leaf48 ok hz0 hhead hsz w
    rw [K 0 (by decide) (Fm.leaf 48).ev (fun r => rfl)] at h
    exact h
  · have h := l05Func_leaf49 ok hz0 hhead hsz w
    rw [K 1 (by decide) (Fm.leaf 49).ev (fun r => rfl)] at h
    exact h
theorem l05Put_kids {n : Int} {R : Nat} (ok : FOk n 0 R) {f : Fm} {i : Nat} (_ : True) (hi : i < 6) (hm : gM i = f.kids.length) (hk0 : 0 < f.kids.length) (hk3 : f.kids.length ≤ 3) (hev : ∀ (n : Int) (R r : Nat), r < R → putN (f.fs n R f.kids.length) (gM i) (gX i) r = f.ev r) (w : World) {base : Nat} {s : Value} (h : OwnsF w base s (f.fs n R f.kids.length)) :
    Calls Tryd.prog 80 #[.agg #[.int .i64 (gM i : Int), .int .i64 (gX i : Int)], s] w fun e w' => e = .returned (.agg #[.int .i64 n, .int .i64 (sumN f.ev R : Int)]) ∧ Below w.heap.size w w' := by
  obtain ⟨x, R', hx, okg⟩ := fok (gt_ok i hi)
  have e0 := f.fs_get n R 0 hk0
  have ok1 : FOk (fget (f.fs n R f.kids.length) 0).1 (sumN (f.kids[0]).ev R) R := by rw [e0]; exact Fm.ev_ok ok _
  have hp := l01Put_any okg (by omega) (by omega) (by rw [hm]; exact f.fs_len n R _ (Nat.le_refl _)) (fun j hj => by
    rw [f.fs_get n R j (by omega)]
    exact (Fm.ev_ok ok _).is) ok1 w h
  rw [e0, ← hx] at hp
  rw [show sumN (putN (f.fs n R f.kids.length) (gM i) x) R = sumN f.ev R from sumN_congr R fun r hr => by
    rw [show x = gX i by omega]
    exact hev n R r hr] at hp
  exact hp
set_option maxRecDepth 100000 in
set_option maxHeartbeats 16000000 in
theorem l05Func_any {n : Int} {R : Nat} (ok : FOk n 0 R) : ∀ (N : Nat) (f : Fm), f.wf → f.txt.length ≤ N → N ≤ 1000 → ∀ w, Calls Tryd.prog 47 #[.int .i64 n, .string f.bytes] w (FuncPost f n R w) := by
  intro N
  induction N with
  | zero => intro f _ h; have := f.txt_pos; omega
  | succ N ih =>
    intro f wf hf hn w
    rcases Fm.sort wf with ⟨c, rfl, hc⟩ | ⟨i, hi, hg, hm, hpl, hk0, h48, h49, hev⟩
    · exact l05Func_leaf ok hc w
    have hpos := f.txt_pos
    have hz0 : 0 < f.bytes.size := by rw [f.bytes_size]; exact hpos
    have hhead := f.head_at hz0
    rw [← hhead] at hg h48 h49 hpl
    obtain ⟨z, hz⟩ : ∃ z, f.bytes[0].toNat = z := ⟨_, rfl⟩
    have PL := Lib.hid (fun w => l05Places_any f.bytes[0] w)
    rw [hpl, hz] at PL
    rw [hz] at hg h48 h49
    have n48 : ((z : Int) == 48) = false := by simp; omega
    have n49 : ((z : Int) == 49) = false := by simp; omega
    have nk : ((f.kids.length : Int) == 0) = false := by simp only [beq_eq_false_iff_ne, ne_eq]; omega
    have GT := Lib.hid (fun W => l05Gate_any z i hi hg W)
    clear hg h48 h49
    obtain ⟨i0, hinf, hz0', hz1', hz2'⟩ := info_parts infoF
    obtain ⟨W1, hW1⟩ : ∃ W1, w.alloc (.cells #[.int .i64 0, .int .i64 0] 24) = W1 := ⟨_, rfl⟩
    have hb1 : Below w.heap.size w W1 := by rw [← hW1]; exact bnew _ _
    have c0 : W1.cell? ⟨w.heap.size, 0, none⟩ = some (.int .i64 0) := by rw [← hW1]; simp [go_sem]
    have c1 : W1.cell? ⟨w.heap.size, 1, none⟩ = some (.int .i64 0) := by rw [← hW1]; simp [go_sem]
    have f0 : W1.frozen? ⟨w.heap.size, 0, none⟩ = false := by rw [← hW1]; simp [go_sem]
    have f1 : W1.frozen? ⟨w.heap.size, 1, none⟩ = false := by rw [← hW1]; simp [go_sem]
    have PP := Lib.hid (l05Parts_any wf (by omega) W1)
    have hk3 := f.kids_le
    have HV := Lib.hid hev
    have HM := Lib.hid hm
    have hsz : f.bytes.size ≤ 1048576 := by rw [f.bytes_size]; omega
    clear hhead hpl hev hm
    generalize f.bytes = T at *
    go_enter Tryd.func47, Tryd.ntmps47
    go_wp2_with (go_at_call 78; refine (PL.out _).mono ?_; rintro e w' ⟨rfl, rfl⟩)
    refine PP.out.mono ?_
    rintro e w2 ⟨s, rfl, ho, hb2⟩
    obtain ⟨a, cap, hs, hcells⟩ := ho.form
    rw [List.length_map] at hs
    subst hs
    obtain ⟨g, rfl, hg2, PC⟩ := hcells (by rw [List.length_map]; exact hk0)
    have PC := Lib.hid PC
    have d0 := kc hb2 c0
    have d1 := kc hb2 c1
    have g0 := kf hb2 c0 f0
    have g1 := kf hb2 c1 f1
    have HB2 := Lib.hid (bthen hb1 hb2)
    have hl := cell_lt d0
    clear hb1 hb2 c0 c1 f0 f1 PP PL ho hcells hW1
    go_wp2_with fail
    go_loopw [7, 8] (fun s i wr => ∃ j : Nat, j ≤ f.kids.length ∧ i = .int .i64 j ∧ Hid (OwnsF wr w2.heap.size s (f.fs n R j)) ∧ Hid (Below w2.heap.size w2 wr)) (fun _ i _ => f.kids.length - (intOf i).toNat)
    case atStart => exact ⟨0, Nat.zero_le _, rfl, Lib.hid (World.ownsRow_lit w2 #[] 0 (Nat.le_refl _) (by decide) rfl), Lib.hid (bnew _ _)⟩
    case round =>
      obtain ⟨j, hj, rfl, O, HN⟩ := hrel
      have hszr : w2.heap.size ≤ wr.heap.size := HN.out.size
      by_cases hlt : j < f.kids.length
      · have hm := List.getElem_mem hlt
        have I := Lib.hid (fun W => ih (f.kids[j]) (Fm.kids_wf wf _ hm) (by have := Fm.kids_lt (f := f) _ hm; omega) (by omega) W)
        have pj := PC.out j (by rw [List.length_map]; exact hlt)
        rw [List.getElem_map] at pj
        have qj := kc HN.out pj
        have FL := Lib.hid (f.fs_len n R j (by omega))
        have FS := Lib.hid (f.fs_succ n R j hlt)
        clear pj hm
        go_wp2_with fail
        refine (I.out _).mono ?_
        rintro e w5 ⟨rfl, hb5⟩
        have hown5 := (OwnsF.below O.out hb5)
        unfold OwnsF at hown5
        rw [FL.out] at hown5
        have N5 := Lib.hid (bthen HN.out hb5)
        have hs5 : w2.heap.size ≤ w5.heap.size := N5.out.size
        clear hb5 qj O HN I
        generalize (sumN (f.kids[j]).ev R : Int) = y at *
        go_wp2_with (at_builtin; refine wpList_append_own _ rfl _ _ 89 rfl w2.heap.size 24 i0 (.agg #[.int .i64 0, .int .i64 0]) 2 16 Tryd.underlying89 hinf hz0' hz1' hz2' rfl (by decide) _ _ _ rfl (hown5.alloc _) ⟨w5.heap.size, 0, none⟩ 1 1 [.int .i64 n, .int .i64 y] rfl rfl (cell_two_new _ _ _ _) (one_cell_two _ _) (by unfold maxLen; omega) (by omega) (by simp; omega) ?_)
        intro v' w9 hown' hgrow _
        have N9 := Lib.hid ((N5.out.alloc hs5 (.cells #[.int .i64 n, .int .i64 y] 24)).grown hgrow (by simp; omega) (fun j e => (hown5.lt j e).1))
        have O9 := Lib.hid (show OwnsF w9 w2.heap.size v' (f.fs n R (j + 1)) by
          rw [FS.out]
          refine OwnsF.snoc ?_
          rw [FL.out]
          exact hown')
        clear hgrow hown5 hown'
        go_wp2
        go_roundw
        case rel => exact ⟨j + 1, by omega, by go_num, O9, N9⟩
        case measure => simp [intOf]; omega
      · obtain rfl : j = f.kids.length := by omega
        have d2 := kc HN.out d0
        have d3 := kc HN.out d1
        have g2 := kf HN.out d0 g0
        have g3 := kf HN.out d1 g1
        have HB3 := Lib.hid (bthen HB2.out HN.out)
        have PU := Lib.hid (show ∀ W, Below wr.heap.size wr W → Calls Tryd.prog 80 #[.agg #[.int .i64 (gM i : Int), .int .i64 (gX i : Int)], u7] W fun e w' => e = .returned (.agg #[.int .i64 n, .int .i64 (sumN f.ev R : Int)]) ∧ Below W.heap.size W w' from
          fun W hW => l05Put_kids ok trivial hi HM.out hk0 hk3 HV.out W (OwnsF.below O.out hW))
        clear d0 d1 g0 g1 HB2 HV PC O
        go_wp2_with (first
          | (go_at_call 81; refine (GT.out _).mono ?_; rintro e w5 ⟨rfl, hb5⟩; have d4 := kc hb5 d2; have d5 := kc hb5 d3; have g4 := kf hb5 d2 g2; have g5 := kf hb5 d3 g3; have HB5 := Lib.hid (bthen HB3.out hb5))
          | (go_at_call 80; refine (PU.out _ hb5).mono ?_; rintro e w6 ⟨rfl, hb6⟩; have d6 := kc hb6 d4; have d7 := kc hb6 d5; have g6 := kf hb6 d4 g4; have g7 := kf hb6 d5 g5; have HB6 := Lib.hid (bthen HB5.out hb6)))
        exact bodyPost_ret (v := .agg #[.int .i64 n, .int .i64 (sumN f.ev R : Int)]) (by simp [results, Tryd.results47, go_sem, d6, d7]) rfl ⟨rfl, (HB6.out.setCell (p := ⟨w.heap.size, 0, none⟩) (Nat.le_refl _) _).setCell (p := ⟨w.heap.size, 1, none⟩) (Nat.le_refl _) _⟩
end Go.Proofs.YtleighihfgabkaaDoor
