/-
  Sizes and depths of nodes.
-/
import Derived.Test.YtleighihfgabkaaDoorPF6
import Derived.Test.YtleighihfgabkaaDoorO4
namespace Go.Proofs.YtleighihfgabkaaDoor
open Go.RowKit
set_option linter.unusedVariables false
set_option linter.unusedSimpArgs false
theorem Fm.head_plc {f : Fm} (h : f.wf) : plc f.head = some f.kids.length := by
  cases f with
  | leaf c => exact h
  | one c a => exact h.1
  | two c a b => exact h.1
  | three c a b d => exact h.1
theorem gts_append (l m : List UInt8) : gts (l ++ m) = gts l + gts m := by simp [gts]
theorem gts_flat (ks : List Fm) : gts ((ks.map Fm.txt).flatten) = (ks.map fun g => gts g.txt).sum := by
  induction ks with
  | nil => rfl
  | cons k ks ih => simp only [List.map_cons, List.flatten_cons, List.sum_cons, gts_append, ih]
/-- The size as far as the first j kids go. -/
def Fm.szTo (f : Fm) (j : Nat) : Nat := min 1 f.kids.length + ((f.kids.take j).map fun g => gts g.txt).sum
theorem Fm.szTo_succ (f : Fm) (j : Nat) (h : j < f.kids.length) : f.szTo (j + 1) = f.szTo j + gts f.kids[j].txt := by
  unfold Fm.szTo
  rw [List.take_succ_eq_append_getElem h, List.map_append, List.sum_append]
  simp
  omega
theorem Fm.szTo_all {f : Fm} (w : f.wf) : f.szTo f.kids.length = gts f.txt := by
  have e1 : gts f.txt = (if 0 < plI f.head then 1 else 0) + gts ((f.kids.map Fm.txt).flatten) := by
    rw [f.txt_kids]
    unfold gts
    rw [List.countP_cons]
    simp
    omega
  have e2 := plI_some (Fm.head_plc w)
  rw [e1, e2, gts_flat]
  unfold Fm.szTo
  rw [List.take_length]
  by_cases h : f.kids.length = 0
  · rw [h]; simp
  · rw [if_pos (by omega), show min 1 f.kids.length = 1 by omega]
theorem Fm.szTo_le {f : Fm} (w : f.wf) (j : Nat) (h : j ≤ f.kids.length) : f.szTo j ≤ f.txt.length := by
  have h1 : f.szTo j ≤ f.szTo f.kids.length := by
    have e : (f.kids.map fun g => gts g.txt).sum = ((f.kids.take j).map fun g => gts g.txt).sum + ((f.kids.drop j).map fun g => gts g.txt).sum := by
      rw [← List.sum_append, ← List.map_append, List.take_append_drop]
    unfold Fm.szTo
    rw [List.take_length, e]
    omega
  have h2 := Fm.szTo_all w
  have h3 := gts_le f.txt
  omega
theorem KidsOf.form {W : World} {f : Fm} {s : Value} (h : KidsOf W f s) : ∃ a cap, s = .slice a f.kids.length cap ∧ (0 < f.kids.length → ∃ g, a = some ⟨g, 0, none⟩ ∧ ∀ i (h : i < f.kids.length), ∃ kb, W.cell? ⟨g, i, none⟩ = some (.pointer (some ⟨kb, 0, none⟩)) ∧ IsNode W f.kids[i] 0 kb) := by
  rcases h with ⟨h0, rfl⟩ | ⟨h0, g, cap, rfl, hk⟩
  · exact ⟨none, 0, by rw [h0], fun h => by omega⟩
  · exact ⟨_, cap, rfl, fun _ => ⟨g, rfl, hk⟩⟩
set_option maxRecDepth 100000 in
set_option maxHeartbeats 8000000 in
theorem nodeSize_any : ∀ (n : Nat) (f : Fm), f.wf → f.txt.length ≤ n → n ≤ 1048576 → ∀ (b : Nat) (w : World), IsNode w f 0 b →
    Calls Tryd.prog 53 #[.pointer (some ⟨b, 0, none⟩)] w fun e w' => e = .returned (.int .i64 (gts f.txt : Int)) ∧ Below w.heap.size w w' := by
  intro n
  induction n with
  | zero => intro f _ h; have := f.txt_pos; omega
  | succ n ih =>
    intro f wf hf hn b w hN
    obtain ⟨_, _, c1, s, c2, hk⟩ := hN.open
    obtain ⟨a, cap, rfl, hkk⟩ := hk.form
    have O := Lib.hid (ownSize_any (Fm.head_plc wf) w)
    have HK := Lib.hid hkk
    have IH := Lib.hid ih
    have HA := Lib.hid (Fm.szTo_all wf)
    obtain ⟨v, hv⟩ : ∃ v, gV f.head = v := ⟨_, rfl⟩
    rw [hv] at O c1
    have hk3 := f.kids_le
    obtain ⟨u, x, K, r, hvv, _, _⟩ := gateP (Fm.head_plc wf)
    rw [hv] at hvv
    subst hvv
    clear hk hkk ih hN hv
    go_enter Tryd.func53, Tryd.ntmps53
    go_wp2_with (go_at_call 84; refine (O.out).mono ?_; rintro e w2 ⟨rfl, hb2⟩; have c2' := kc hb2 c2)
    have HB2 := Lib.hid hb2
    clear hb2 c2 c1 O
    go_loopw [3, 16] (fun c i wr => ∃ k : Nat, k ≤ f.kids.length ∧ i = .int .i64 (k : Nat) ∧ c = .int .i64 (f.szTo k : Nat) ∧ Below w.heap.size w wr) (fun _ i _ => f.kids.length - (intOf i).toNat)
    case atStart => exact ⟨0, Nat.zero_le _, rfl, by simp [Fm.szTo], HB2.out⟩
    case round =>
      obtain ⟨k, hk, rfl, rfl, hN⟩ := hrel
      by_cases hlt : k < f.kids.length
      · obtain ⟨g, rfl, hkk⟩ := HK.out (by omega)
        obtain ⟨kb, ck, nk⟩ := hkk k hlt
        have ck' := kc hN ck
        have I := Lib.hid (IH.out f.kids[k] (Fm.kids_wf wf _ (List.getElem_mem hlt)) (by have := Fm.kids_lt (f := f) _ (List.getElem_mem hlt); omega) (by omega) kb wr (nk.below hN))
        have hl1 := Fm.szTo_le wf (k + 1) (by omega)
        have e1 := f.szTo_succ k hlt
        obtain ⟨q, hq⟩ : ∃ q, gts f.kids[k].txt = q := ⟨_, rfl⟩
        obtain ⟨p, hp⟩ : ∃ p, f.szTo k = p := ⟨_, rfl⟩
        obtain ⟨p', hp'⟩ : ∃ p', f.szTo (k + 1) = p' := ⟨_, rfl⟩
        rw [hq] at I e1
        rw [hp] at e1
        rw [hp'] at e1 hl1
        rw [hp]
        have HP := Lib.hid hp'
        have eN : IntKind.i64.wrap ((p : Int) + (q : Int)) = ((p' : Nat) : Int) := by rw [wrap64_small (by omega) (by omega)]; omega
        clear hkk ck nk hq hp hp' HA
        go_wp2_with (go_at_call 53; refine (I.out).mono ?_; rintro e w3 ⟨rfl, hb3⟩)
        go_roundw
        case rel => exact ⟨k + 1, by omega, by go_num, by rw [HP.out]; congr 1; omega, bthen hN hb3⟩
        case measure => simp [intOf]; omega
      · obtain rfl : k = f.kids.length := by omega
        rw [HA.out]
        go_wp2_with fail
        go_ret
        exact ⟨rfl, hN⟩
/-- The greatest depth of the first j kids. -/
def Fm.dgTo (f : Fm) (j : Nat) : Nat := ((f.kids.take j).map fun g => g.depth).foldl max 0
theorem Fm.dgTo_succ (f : Fm) (j : Nat) (h : j < f.kids.length) : f.dgTo (j + 1) = max (f.dgTo j) (f.kids[j].depth) := by
  unfold Fm.dgTo
  rw [List.take_succ_eq_append_getElem h, List.map_append, List.foldl_append]
  rfl
theorem Fm.dgTo_all (f : Fm) : f.dgTo f.kids.length + min 1 f.kids.length = f.depth := by
  unfold Fm.dgTo
  rw [List.take_length]
  cases f <;> simp [Fm.kids, Fm.depth, List.foldl] <;> omega
theorem Fm.dgTo_le (f : Fm) (j : Nat) : j ≤ f.kids.length → f.dgTo j ≤ f.txt.length := by
  induction j with
  | zero => intro _; simp [Fm.dgTo]
  | succ j ih =>
    intro h
    have h1 := ih (by omega)
    have h2 := (f.kids[j]).depth_lt
    have h3 := Fm.kids_lt (f := f) _ (List.getElem_mem (show j < f.kids.length by omega))
    rw [f.dgTo_succ j (by omega)]
    omega
set_option maxRecDepth 100000 in
set_option maxHeartbeats 8000000 in
theorem nodeDepth_any : ∀ (n : Nat) (f : Fm), f.wf → f.txt.length ≤ n → n ≤ 1048576 → ∀ (b : Nat) (w : World), IsNode w f 0 b →
    Calls Tryd.prog 55 #[.pointer (some ⟨b, 0, none⟩)] w fun e w' => e = .returned (.int .i64 (f.depth : Int)) ∧ Below w.heap.size w w' := by
  intro n
  induction n with
  | zero => intro f _ h; have := f.txt_pos; omega
  | succ n ih =>
    intro f wf hf hn b w hN
    obtain ⟨_, _, c1, s, c2, hk⟩ := hN.open
    obtain ⟨a, cap, rfl, hkk⟩ := hk.form
    have O := Lib.hid (fun w => ownSize_any (Fm.head_plc wf) w)
    have HK := Lib.hid hkk
    have IH := Lib.hid ih
    have HA := Lib.hid f.dgTo_all
    obtain ⟨v, hv⟩ : ∃ v, gV f.head = v := ⟨_, rfl⟩
    rw [hv] at O c1
    have hk3 := f.kids_le
    obtain ⟨u, x, K, r, hvv, _, _⟩ := gateP (Fm.head_plc wf)
    rw [hv] at hvv
    subst hvv
    have C1 := Lib.hid c1
    clear hk hkk ih hN hv c1
    go_enter Tryd.func55, Tryd.ntmps55
    go_wp2_with fail
    go_loopw [3, 11] (fun c i wr => ∃ k : Nat, k ≤ f.kids.length ∧ i = .int .i64 (k : Nat) ∧ c = .int .i64 (f.dgTo k : Nat) ∧ Below w.heap.size w wr) (fun _ i _ => f.kids.length - (intOf i).toNat)
    case atStart => exact ⟨0, Nat.zero_le _, rfl, by simp [Fm.dgTo], Below.refl _ _⟩
    case round =>
      obtain ⟨k, hk, rfl, rfl, hN⟩ := hrel
      by_cases hlt : k < f.kids.length
      · obtain ⟨g, rfl, hkk⟩ := HK.out (by omega)
        obtain ⟨kb, ck, nk⟩ := hkk k hlt
        have ck' := kc hN ck
        have I := Lib.hid (IH.out f.kids[k] (Fm.kids_wf wf _ (List.getElem_mem hlt)) (by have := Fm.kids_lt (f := f) _ (List.getElem_mem hlt); omega) (by omega) kb wr (nk.below hN))
        have e1 := f.dgTo_succ k hlt
        obtain ⟨q, hq⟩ : ∃ q, f.kids[k].depth = q := ⟨_, rfl⟩
        obtain ⟨p, hp⟩ : ∃ p, f.dgTo k = p := ⟨_, rfl⟩
        rw [hq] at I e1
        rw [hp] at e1
        rw [hp]
        have HP := Lib.hid e1
        clear hkk ck nk hq hp e1 HA C1 O
        go_wp2_with (go_at_call 55; refine (I.out).mono ?_; rintro e w3 ⟨rfl, hb3⟩)
        go_roundw
        case rel => exact ⟨k + 1, by omega, by go_num, by rw [HP.out]; congr 1; split <;> omega, bthen hN hb3⟩
        case measure => simp [intOf]; omega
      · obtain rfl : k = f.kids.length := by omega
        have hl := f.dgTo_le _ (Nat.le_refl f.kids.length)
        have c1' := kc hN C1.out
        obtain ⟨p, hp⟩ : ∃ p, f.dgTo f.kids.length = p := ⟨_, rfl⟩
        obtain ⟨m, hm⟩ : ∃ m, min 1 f.kids.length = m := ⟨_, rfl⟩
        have hm1 : m ≤ 1 := by omega
        rw [hm] at O
        rw [hp, hm] at HA
        rw [hp] at hl ⊢
        have eN : IntKind.i64.wrap ((p : Int) + (m : Int)) = (f.depth : Int) := by rw [wrap64_small (by omega) (by omega), ← HA.out]; omega
        clear hp hm C1
        go_wp2_with (go_at_call 84; refine (O.out _).mono ?_; rintro e w3 ⟨rfl, hb3⟩)
        go_ret
        exact ⟨by first | rfl | (rw [← HA.out]; rfl), bthen hN hb3⟩
end Go.Proofs.YtleighihfgabkaaDoor
