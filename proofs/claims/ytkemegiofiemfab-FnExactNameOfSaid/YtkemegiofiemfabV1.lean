/-
  strings.Cut at a colon.
-/
import Derived.Test.YtkemegiofiemfabT1
import Derived.Lib.Bytealg
import Derived.Lib.IndexLaws
namespace Go.Proofs.Ytkemegiofiemfab
open Go.RowKit
set_option linter.unusedVariables false

set_option maxRecDepth 100000 in
set_option maxHeartbeats 1000000 in
theorem IndexByte_any (s : ByteArray) (w : World) :
    Calls Try.prog 148 #[.string s, .int .u8 58] w fun e w' => e = .returned (.int .i64 (Lib.indexByte s.data.toList 58)) ∧ w = w' := by
  go_enter Try.func148, Try.ntmps148
  go_wp2
  rw [run_callFunc_extern Try.func152 (by kernel_rfl) (by kernel_rfl) (by kernel_rfl) (e := Extern.BytealgIndexByte.indexByte) (by kernel_rfl), Lib.run_indexByteString]
  simp only [Result.andThen]
  rw [Oper.upon_value]
  go_wp2
  go_ret
  exact ⟨rfl, rfl⟩

theorem IndexByte_is {s : ByteArray} {i : Int} (h : Lib.indexByte s.data.toList 58 = i) (w : World) :
    Calls Try.prog 148 #[.string s, .int .u8 58] w fun e w' => e = .returned (.int .i64 i) ∧ w = w' := h ▸ IndexByte_any s w

set_option maxRecDepth 100000 in
set_option maxHeartbeats 1000000 in
theorem Index_is {s : ByteArray} {i : Int} (h : Lib.indexByte s.data.toList 58 = i) (w : World) :
    Calls Try.prog 147 #[.string s, .string ⟨#[58]⟩] w fun e w' => e = .returned (.int .i64 i) ∧ w = w' := by
  cases he : ([58] : List UInt8) == s.toList
  · go_enter Try.func147, Try.ntmps147
    go_wp2_with (go_at_call 148; refine (IndexByte_is h _).mono ?_; rintro e w' ⟨rfl, rfl⟩)
    go_ret
    exact ⟨rfl, rfl⟩
  · have e : s.data.toList = [58] := by rw [← Lib.toList_data]; exact (beq_iff_eq.1 he).symm
    obtain rfl : i = 0 := by rw [← h, e]; simp [Lib.indexByte]
    clear h e
    go_enter Try.func147, Try.ntmps147
    go_wp2
    go_ret
    exact ⟨rfl, rfl⟩

set_option maxRecDepth 100000 in
set_option maxHeartbeats 1000000 in
theorem lCut_none {s : ByteArray} (hs : s.size ≤ 1048576) (h : Lib.indexByte s.data.toList 58 = -1) (w : World) :
    Calls Try.prog 144 #[.string s, .string ⟨#[58]⟩] w fun e w' => e = .returned (.tuple #[.string s, .string ⟨#[]⟩, .bool false]) ∧ Below w.heap.size w w' := by
  go_enter Try.func144, Try.ntmps144
  go_wp2_with (go_at_call 147; refine (Index_is h _).mono ?_; rintro e w' ⟨rfl, rfl⟩)
  go_ret3
  exact ⟨rfl, Below.refl _ _⟩

set_option maxRecDepth 100000 in
set_option maxHeartbeats 1000000 in
theorem lCut_some {s : ByteArray} {o : Nat} (hs : s.size ≤ 1048576) (ho : o < s.size) (h : Lib.indexByte s.data.toList 58 = (o : Int)) (w : World) :
    Calls Try.prog 144 #[.string s, .string ⟨#[58]⟩] w fun e w' => e = .returned (.tuple #[.string (s.extract 0 o), .string (s.extract (o + 1) s.size), .bool true]) ∧ Below w.heap.size w w' := by
  have h1 : (o : Int) ≤ (s.size : Int) := by omega
  have h2 : (o : Int) + 1 ≤ (s.size : Int) := by omega
  have h3 : (0 : Int) ≤ (o : Int) := by omega
  go_enter Try.func144, Try.ntmps144
  go_wp2_with (go_at_call 147; refine (Index_is h _).mono ?_; rintro e w' ⟨rfl, rfl⟩)
  go_region
  go_wp2
  go_ret3
  exact ⟨rfl, (Below.refl _ _).drew⟩

set_option maxRecDepth 100000 in
set_option maxHeartbeats 1000000 in
theorem Cut_none {s : ByteArray} (hs : s.size ≤ 1048576) (h : Lib.indexByte s.data.toList 58 = -1) (w : World) :
    Calls Try.prog 97 #[.string s, .string ⟨#[58]⟩] w fun e w' => e = .returned (.tuple #[.string s, .string ⟨#[]⟩, .bool false]) ∧ Below w.heap.size w w' := by
  go_enter Try.func97, Try.ntmps97
  go_wp2_with (go_at_call 144; refine (lCut_none hs h _).mono ?_; rintro e w2 ⟨rfl, hb⟩)
  go_ret3
  exact ⟨rfl, hb⟩

set_option maxRecDepth 100000 in
set_option maxHeartbeats 1000000 in
theorem Cut_some {s : ByteArray} {o : Nat} (hs : s.size ≤ 1048576) (ho : o < s.size) (h : Lib.indexByte s.data.toList 58 = (o : Int)) (w : World) :
    Calls Try.prog 97 #[.string s, .string ⟨#[58]⟩] w fun e w' => e = .returned (.tuple #[.string (s.extract 0 o), .string (s.extract (o + 1) s.size), .bool true]) ∧ Below w.heap.size w w' := by
  go_enter Try.func97, Try.ntmps97
  go_wp2_with (go_at_call 144; refine (lCut_some hs ho h _).mono ?_; rintro e w2 ⟨rfl, hb⟩)
  go_ret3
  exact ⟨rfl, hb⟩
end Go.Proofs.Ytkemegiofiemfab
