/-
  NameOf in the program.
-/
import Derived.Test.YtkemegiofiemfabX2
import Derived.Deep.RegionWith
namespace Go.Proofs.Ytkemegiofiemfab
open Go.RowKit
open Go.Maps (Keyed IsMap)
set_option linter.unusedVariables false
set_option linter.unusedSimpArgs false

theorem zeroS (w : World) : (zeroValue 9).run Try.prog w = .ok (.string ⟨#[]⟩) w := by kernel_rfl

/-- The name of a function, if it has one. -/
def nameOf (p : Int × Int) : Option (List UInt8 × Int × Int) := nmL.find? fun e => e.2 == p
def nameB (o : Option (List UInt8 × Int × Int)) : ByteArray := match o with | some e => ⟨e.1.toArray⟩ | none => ⟨#[]⟩

theorem doneN_all (p : Int × Int) : doneN (fun _ => false) p = fun e => e.2 == p := by
  funext e
  simp [doneN]

theorem names_look {w : World} {b : Nat} {D : DV} (hown : w.ownsMap Try.prog 26 (plainElem Try.prog 9) b 14 D) (hN : NInv D (fun _ => false)) {p : Int × Int} (hp : wfP p) :
    (Instr.lookup 88 (.map (some b)) (.agg #[.int .i64 p.1, .int .i64 p.2]) true).run Try.prog w = .ok (.tuple #[.string (nameB (nameOf p)), .bool (nameOf p).isSome]) w := by
  obtain ⟨v, ps, hrun, hv⟩ := hown.look_ok lawN Try.underlying88 (zeroS w) (plainElem_string (s := ⟨#[]⟩) Try.underlying9 (by decide)) hp.key
  obtain ⟨g1, g2⟩ := hN.2 p hp
  rw [doneN_all] at g1 g2
  obtain ⟨s, rfl, hs, _⟩ := plainElem_string_inv Try.underlying9 hv
  rw [g2] at hs
  rw [hrun, g1]
  unfold nameOf
  cases h : nmL.find? (fun e => e.2 == p) with
  | none =>
    rw [h] at hs
    have h1 : nmL.any (fun e => e.2 == p) = false := List.any_eq_false.2 (List.find?_eq_none.1 h)
    simp at hs
    rw [h1]
    have : s = ⟨#[]⟩ := by
      apply ByteArray.ext
      have := hs.1
      simpa using this.symm
    rw [this]
    rfl
  | some e =>
    rw [h] at hs
    have h1 : nmL.any (fun e => e.2 == p) = true := List.any_eq_true.2 ⟨e, List.mem_of_find?_eq_some h, by simpa using List.find?_some h⟩
    simp at hs
    rw [h1]
    have : s = ⟨e.1.toArray⟩ := by
      apply ByteArray.ext
      rw [hs.1]
    rw [this]
    rfl

set_option maxRecDepth 100000 in
set_option maxHeartbeats 1000000 in
theorem implNameOf_no {n b : Int} (h : isF n b = false) (w : World) :
    Calls Try.prog 25 #[.agg #[.int .i64 n, .int .i64 b]] w fun e w' => e = .returned (.tuple #[.string ⟨#[]⟩, .int .i64 1]) ∧ Below w.heap.size w w' := by
  obtain ⟨W1, hW1⟩ : ∃ W1, w.alloc (.cells #[.int .i64 n, .int .i64 b] 26) = W1 := ⟨_, rfl⟩
  have p0 : W1.cell? ⟨w.heap.size, 0, none⟩ = some (.int .i64 n) := by rw [← hW1]; simp [go_sem]
  have p1 : W1.cell? ⟨w.heap.size, 1, none⟩ = some (.int .i64 b) := by rw [← hW1]; simp [go_sem]
  have hB : Below w.heap.size w W1 := by rw [← hW1]; exact bnew _ _
  go_enter Try.func25, Try.ntmps25
  go_wp2_with (first
    | (go_at_call 34; refine (IsFunc_is h _).mono ?_; rintro e w2 ⟨rfl, hb⟩; have hB2 := bthen hB hb))
  go_ret2
  exact ⟨rfl, hB2⟩

set_option maxRecDepth 100000 in
set_option maxHeartbeats 4000000 in
theorem implNameOf_yes {n b : Int} (h : isF n b = true) (hp : wfP (n, b)) {o : Option (List UInt8 × Int × Int)} (ho : nameOf (n, b) = o) (w : World) :
    Calls Try.prog 25 #[.agg #[.int .i64 n, .int .i64 b]] w fun e w' => e = .returned (.tuple #[.string (nameB o), .int .i64 (if o.isSome then 0 else 4)]) ∧ Below w.heap.size w w' := by
  obtain ⟨W1, hW1⟩ : ∃ W1, w.alloc (.cells #[.int .i64 n, .int .i64 b] 26) = W1 := ⟨_, rfl⟩
  have p0 : W1.cell? ⟨w.heap.size, 0, none⟩ = some (.int .i64 n) := by rw [← hW1]; simp [go_sem]
  have p1 : W1.cell? ⟨w.heap.size, 1, none⟩ = some (.int .i64 b) := by rw [← hW1]; simp [go_sem]
  have hB : Below w.heap.size w W1 := by rw [← hW1]; exact bnew _ _
  cases o with
  | none =>
    have NL : Hid (∀ (W : World) (bb : Nat) (D : DV), W.ownsMap Try.prog 26 (plainElem Try.prog 9) bb 14 D → NInv D (fun _ => false) → (Instr.lookup 88 (.map (some bb)) (.agg #[.int .i64 n, .int .i64 b]) true).run Try.prog W = .ok (.tuple #[.string ⟨#[]⟩, .bool false]) W) :=
      Lib.hid fun W bb D h1 h2 => by have := names_look h1 h2 hp; rw [ho] at this; exact this
    go_enter Try.func25, Try.ntmps25
    go_wp2_with (first
      | (go_at_call 34; refine (IsFunc_is h _).mono ?_; rintro e w2 ⟨rfl, hb⟩; have q0 := kc hb p0; have q1 := kc hb p1; have hB2 := bthen hB hb))
    go_region_with (go_at_call 94; refine (namesByFunc_any _).mono ?_; rintro e w3 ⟨D, rfl, hown, hN, hb3⟩; have r0 := kcd hb3 q0; have r1 := kcd hb3 q1; have hrun := NL.out w3 w2.heap.size D hown hN)
    all_goals
      have hB3 := bthen hB2.drew hb3
      go_wp2
      go_ret2
      exact ⟨rfl, hB3⟩
  | some e0 =>
    have NL : Hid (∀ (W : World) (bb : Nat) (D : DV), W.ownsMap Try.prog 26 (plainElem Try.prog 9) bb 14 D → NInv D (fun _ => false) → (Instr.lookup 88 (.map (some bb)) (.agg #[.int .i64 n, .int .i64 b]) true).run Try.prog W = .ok (.tuple #[.string ⟨e0.1.toArray⟩, .bool true]) W) :=
      Lib.hid fun W bb D h1 h2 => by have := names_look h1 h2 hp; rw [ho] at this; exact this
    go_enter Try.func25, Try.ntmps25
    go_wp2_with (first
      | (go_at_call 34; refine (IsFunc_is h _).mono ?_; rintro e w2 ⟨rfl, hb⟩; have q0 := kc hb p0; have q1 := kc hb p1; have hB2 := bthen hB hb))
    go_region_with (go_at_call 94; refine (namesByFunc_any _).mono ?_; rintro e w3 ⟨D, rfl, hown, hN, hb3⟩; have r0 := kcd hb3 q0; have r1 := kcd hb3 q1; have hrun := NL.out w3 w2.heap.size D hown hN)
    all_goals
      have hB3 := bthen hB2.drew hb3
      go_wp2
      go_ret2
      exact ⟨rfl, hB3⟩
end Go.Proofs.Ytkemegiofiemfab
