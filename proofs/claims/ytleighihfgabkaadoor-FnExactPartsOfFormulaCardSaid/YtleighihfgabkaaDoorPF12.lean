/-
  PartsOfFormula of the program.
-/
import Derived.Test.YtleighihfgabkaaDoorPF8
import Derived.Test.YtleighihfgabkaaDoorO5
import Derived.Test.YtleighihfgabkaaDoorCL
namespace Go.Proofs.YtleighihfgabkaaDoor
open Go.RowKit
set_option linter.unusedVariables false
set_option linter.unusedSimpArgs false
theorem OwnsS.nil0 (W : World) (base : Nat) : OwnsS W base (.slice none 0 0) [] := ⟨rfl, .inl ⟨rfl, rfl⟩⟩
set_option maxRecDepth 100000 in
set_option maxHeartbeats 4000000 in
theorem implPartsOfFormula_no {s : ByteArray} (hf : isFm s = false) {a : Addr} (w : World) (hE : ErrAt w a) :
    Calls Tryd.prog 35 #[.string s] w (StrsPost w.heap.size [] 6 w) := by
  have R := Lib.hid (readFormula_no hf w hE)
  clear hf
  go_enter Tryd.func35, Tryd.ntmps35
  go_wp2_with (go_at_call 44; refine (R.out).mono ?_; rintro e w2 ⟨rfl, hb⟩)
  go_ret2
  exact ⟨_, rfl, OwnsS.nil0 _ _, hb⟩
set_option maxRecDepth 100000 in
set_option maxHeartbeats 8000000 in
theorem implPartsOfFormula_yes {s : ByteArray} (hf : isFm s = true) {a : Addr} (w : World) (hE : ErrAt w a) :
    Calls Tryd.prog 35 #[.string s] w fun e w' => ∃ f : Fm, f.wf ∧ s = f.bytes ∧ StrsPost w.heap.size (f.kids.map Fm.bytes) 0 w e w' := by
  obtain ⟨i0, hi, hz0, hz1, hz2⟩ := info_parts infoStr
  have R := Lib.hid (readFormula_yes hf w hE)
  have H60 := Lib.hid (show s.size ≤ 60 from (isFm_iff.1 hf).1)
  clear hf
  go_enter Tryd.func35, Tryd.ntmps35
  go_wp2_with (go_at_call 44; refine (R.out).mono ?_; rintro e w2 ⟨hb, f, b, hwf, hsf, rfl, hN⟩
               have HS := Lib.hid hsf
               have HW := Lib.hid hwf
               have HB := Lib.hid hb
               obtain ⟨_, _, c1, s2, c2, hk⟩ := hN.open
               obtain ⟨a2, cap, rfl, hkk⟩ := hk.form
               have HK := Lib.hid hkk
               have hk3 := f.kids_le
               have HL := Lib.hid (show f.txt.length ≤ 60 by have h1 := H60.out; rw [hsf, f.bytes_size] at h1; exact h1)
               have PA := Lib.hid (show f.partsTo f.kids.length = f.kids.map Fm.bytes by unfold Fm.partsTo; rw [List.take_length])
               clear hsf hwf hb hk hkk c1 hN)
  go_loopw [6, 22] (fun c i wr => ∃ k : Nat, k ≤ f.kids.length ∧ i = .int .i64 (k : Nat) ∧ Hid (OwnsS wr w2.heap.size c (f.partsTo k)) ∧ Hid (Below w2.heap.size w2 wr)) (fun _ i _ => f.kids.length - (intOf i).toNat)
  case atStart => exact ⟨0, Nat.zero_le _, rfl, Lib.hid (OwnsS.nil0 _ _), Lib.hid (Below.refl _ _)⟩
  case round =>
    obtain ⟨k, hk, rfl, O, HN2⟩ := hrel
    by_cases hlt : k < f.kids.length
    · obtain ⟨g, rfl, hkk⟩ := HK.out (by omega)
      obtain ⟨kb, ck, nk⟩ := hkk k hlt
      have ck' := kc HN2.out ck
      obtain ⟨_, ct, _⟩ := nk.open
      have ct' := kc HN2.out ct
      have ES := Lib.hid (f.partsTo_succ k hlt)
      have PL := Lib.hid (f.partsTo_len k (by omega))
      have hsz : (f.kids[k]).bytes.size ≤ 281474976710656 := by
        have h1 := Fm.kids_lt (f := f) _ (List.getElem_mem hlt)
        have h2 := HL.out
        rw [Fm.bytes_size]; omega
      obtain ⟨t, ht⟩ : ∃ t, (f.kids[k]).bytes = t := ⟨_, rfl⟩
      rw [ht] at ES ct' hsz
      have CLN := Lib.hid (fun w => stClone_any t w hsz)
      clear hkk ck nk ht ct hsz
      go_wp2_with (first
        | (go_at_call 64; refine (CLN.out _).mono ?_; rintro e w3 ⟨rfl, hb3⟩
           have O3 := Lib.hid (O.out.below hb3)
           have HN4 := Lib.hid (bthen HN2.out hb3)
           have hown5 := O3.out
           unfold OwnsS at hown5
           rw [PL.out] at hown5
           have hs4 : w2.heap.size ≤ w3.heap.size := HN4.out.size
           clear hb3)
        | (at_builtin; refine wpList_append_own _ rfl _ _ 38 rfl w2.heap.size 9 i0 (.string ⟨#[]⟩) 1 16 Tryd.underlying38 hi hz0 hz1 hz2 rfl (by decide) _ _ _ rfl (hown5.alloc _) ⟨w3.heap.size, 0, none⟩ 1 1 [.string t] rfl rfl (cell_one_new _ _ _) (one_cell_str _) (by unfold maxLen; omega) (by omega) (by simp; omega) ?_))
      intro v' w9 hown' hgrow _
      have N9 := Lib.hid ((HN4.out.alloc hs4 (.cells #[.string t] 9)).grown hgrow (by simp; omega) (fun j e => (hown5.lt j e).1))
      have O9 := Lib.hid (show OwnsS w9 w2.heap.size v' (f.partsTo (k + 1)) by
        rw [ES.out]
        unfold OwnsS
        rw [strs_snoc, List.length_append, PL.out]
        exact hown')
      clear hgrow hown5 hown'
      go_wp2
      go_roundw
      case rel => exact ⟨k + 1, by omega, by go_num, O9, N9⟩
      case measure => simp [intOf]; omega
    · obtain rfl : k = f.kids.length := by omega
      have O' := O.out
      rw [PA.out] at O'
      go_wp2_with fail
      go_ret2
      exact ⟨f, HW.out, HS.out, _, rfl, O'.mono HB.out.size, bthen HB.out HN2.out⟩
theorem bothPartsOfFormula (s : ByteArray) (hs : s.size ≤ 1048576) {a : Addr} : ∃ xs rc, xs.length ≤ 3 ∧ (∀ w, Calls Tryd.prog 34 #[.string s] w (StrsPost w.heap.size xs rc w)) ∧
    (∀ w, ErrAt w a → Calls Tryd.prog 35 #[.string s] w (StrsPost w.heap.size xs rc w)) := by
  cases hf : isFm s
  · exact ⟨[], 6, by simp, fun w => specPartsOfFormula_no hs hf w, fun w hE => implPartsOfFormula_no hf w hE⟩
  · obtain ⟨f, w, hl, rfl⟩ := fm_cases hf
    refine ⟨_, 0, by rw [List.length_map]; exact f.kids_le, fun w1 => specPartsOfFormula_yes w hl w1, fun w1 hE => (implPartsOfFormula_yes hf w1 hE).mono ?_⟩
    rintro e w' ⟨g, wg, hg, hp⟩
    obtain rfl := bytes_inj w wg hg
    exact hp
end Go.Proofs.YtleighihfgabkaaDoor
