/-
  The bits of nodes; FuncOfFormula of the program.
-/
import Derived.Test.YtleighihfgabkaaDoorPF14
import Derived.Test.YtleighihfgabkaaDoorPF8
import Derived.Test.YtleighihfgabkaaDoorO12
import Derived.Test.YtleighihfgabkaaDoorSH
namespace Go.Proofs.YtleighihfgabkaaDoor
open Go.RowKit
set_option linter.unusedVariables false
set_option linter.unusedSimpArgs false
/-- The bits of the first j kids. -/
def Fm.bsTo (f : Fm) (j : Nat) : List Int := (f.kids.take j).map fun g => g.bv.toInt
theorem Fm.bsTo_succ (f : Fm) (j : Nat) (h : j < f.kids.length) : f.bsTo (j + 1) = f.bsTo j ++ [(f.kids[j]).bv.toInt] := by
  unfold Fm.bsTo
  rw [List.take_succ_eq_append_getElem h, List.map_append]
  rfl
theorem Fm.bsTo_len (f : Fm) (j : Nat) (h : j ≤ f.kids.length) : (f.bsTo j).length = j := by simp [Fm.bsTo, h]
theorem Fm.bsTo_all (f : Fm) : f.bsTo f.kids.length = f.kids.map fun g => g.bv.toInt := by unfold Fm.bsTo; rw [List.take_length]
set_option maxRecDepth 100000 in
set_option maxHeartbeats 8000000 in
theorem nodeBits_any : ∀ (n : Nat) (f : Fm), f.wf → f.txt.length ≤ n → n ≤ 1000 → ∀ (b : Nat) (w : World), IsNode w f 0 b →
    Calls Tryd.prog 50 #[.pointer (some ⟨b, 0, none⟩)] w fun e w' => e = .returned (.int .i64 f.bv.toInt) ∧ Below w.heap.size w w' := by
  intro n
  induction n with
  | zero => intro f _ h; have := f.txt_pos; omega
  | succ n ih =>
    intro f wf hf hn b w hN
    obtain ⟨i0, hi, hz0, hz1, hz2⟩ := info_parts infoI5
    obtain ⟨_, _, c1, s, c2, hk⟩ := hN.open
    obtain ⟨a, cap, rfl, hkk⟩ := hk.form
    obtain ⟨u, x, K, r, hv, hd, hD⟩ := gateB wf
    rw [hv] at c1
    have hdm := hd.m
    have hdc := hd.c
    have HD := Lib.hid hD
    have HK := Lib.hid hkk
    have IH := Lib.hid ih
    have HA := Lib.hid f.bsTo_all
    have hk3 := f.kids_le
    have C1 := Lib.hid c1
    have DM := Lib.hid hdm
    have DC := Lib.hid hdc
    obtain ⟨Z, hZ⟩ : ∃ Z, f.bv.toInt = Z := ⟨_, rfl⟩
    have HD2 : Hid (∀ (w : World) (base : Nat) (s : Value), Owns w base s (f.kids.map fun g => g.bv.toInt) → Calls Tryd.prog K #[r, s] w fun e w' => e = .returned (.int .i64 Z) ∧ Below w.heap.size w w') := Lib.hid (fun w base s ho => hZ ▸ hD w base s ho)
    rw [hZ]
    clear hk hkk ih hN hv hd hD c1 hdm hdc HD hZ
    go_enter Tryd.func50, Tryd.ntmps50
    go_wp2_with fail
    go_loopw [3, 11] (fun c i wr => ∃ k : Nat, k ≤ f.kids.length ∧ i = .int .i64 (k : Nat) ∧ Hid (Owns wr w.heap.size c (f.bsTo k)) ∧ Hid (Below w.heap.size w wr)) (fun _ i _ => f.kids.length - (intOf i).toNat)
    case atStart => exact ⟨0, Nat.zero_le _, rfl, Lib.hid (World.ownsRow_nil _ _ _ _), Lib.hid (Below.refl _ _)⟩
    case round =>
      obtain ⟨k, hk, rfl, O, HN⟩ := hrel
      by_cases hlt : k < f.kids.length
      · obtain ⟨g, rfl, hkk⟩ := HK.out (by omega)
        obtain ⟨kb, ck, nk⟩ := hkk k hlt
        have ck' := kc HN.out ck
        have I := Lib.hid (IH.out f.kids[k] (Fm.kids_wf wf _ (List.getElem_mem hlt)) (by have := Fm.kids_lt (f := f) _ (List.getElem_mem hlt); omega) (by omega) kb wr (nk.below HN.out))
        have ES := Lib.hid (f.bsTo_succ k hlt)
        have PL := Lib.hid (f.bsTo_len k (by omega))
        obtain ⟨t, ht⟩ : ∃ t, (f.kids[k]).bv.toInt = t := ⟨_, rfl⟩
        rw [ht] at I ES
        clear hkk ck nk ht HA C1 DM DC
        go_wp2_with (first
          | (go_at_call 50; refine (I.out).mono ?_; rintro e w3 ⟨rfl, hb3⟩
             have O3 := Lib.hid (O.out.below hb3)
             have HN3 := Lib.hid (bthen HN.out hb3)
             have hown5 := O3.out
             unfold Owns at hown5
             rw [PL.out] at hown5
             have hs3 : w.heap.size ≤ w3.heap.size := HN3.out.size
             clear hb3)
          | (at_builtin; refine wpList_append_own _ rfl _ _ 31 rfl w.heap.size 2 i0 (.int .i64 0) 1 8 Tryd.underlying31 hi hz0 hz1 hz2 rfl (by decide) _ _ _ rfl (hown5.alloc _) ⟨w3.heap.size, 0, none⟩ 1 1 [.int .i64 t] rfl rfl (cell_one_new _ _ _) (one_cell_int _) (by unfold maxLen; omega) (by omega) (by simp; omega) ?_))
        intro v' w9 hown' hgrow _
        have N9 := Lib.hid ((HN3.out.alloc hs3 (.cells #[.int .i64 t] 2)).grown hgrow (by simp; omega) (fun j e => (hown5.lt j e).1))
        have O9 := Lib.hid (show Owns w9 w.heap.size v' (f.bsTo (k + 1)) by
          rw [ES.out]
          unfold Owns
          rw [ints_snoc, List.length_append, PL.out]
          exact hown')
        clear hgrow hown5 hown'
        go_wp2
        go_roundw
        case rel => exact ⟨k + 1, by omega, by go_num, O9, N9⟩
        case measure => simp [intOf]; omega
      · obtain rfl : k = f.kids.length := by omega
        have O' := O.out
        rw [HA.out] at O'
        have I := Lib.hid (HD2.out wr _ _ O')
        have c1 := kc HN.out C1.out
        have hdm := DM.out
        have hdc := DC.out
        clear O' HA HD2 O HK IH
        go_wp2_with (refine (I.out).mono ?_; rintro e w3 ⟨rfl, hb3⟩)
        go_ret
        exact ⟨rfl, bthen HN.out hb3⟩
end Go.Proofs.YtleighihfgabkaaDoor
