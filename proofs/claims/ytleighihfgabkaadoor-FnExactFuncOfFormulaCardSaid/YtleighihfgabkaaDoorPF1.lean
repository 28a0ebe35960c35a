/-
  The bytes of a text, the gates that stand for them.
-/
import Derived.Test.YtleighihfgabkaaDoorO2
import Derived.Lib.Bytealg
import Derived.Lib.IndexLaws
namespace Go.Proofs.YtleighihfgabkaaDoor
open Go.RowKit
set_option linter.unusedVariables false
set_option linter.unusedSimpArgs false

set_option maxRecDepth 100000 in
set_option maxHeartbeats 1000000 in
theorem slIndexByte_any (s : ByteArray) (z : UInt8) (w : World) :
    Calls Tryd.prog 111 #[.string s, .int .u8 (z.toNat : Int)] w fun e w' => e = .returned (.int .i64 (Lib.indexByte s.data.toList z)) ∧ w = w' := by
  go_enter Tryd.func111, Tryd.ntmps111
  go_wp2
  rw [run_callFunc_extern Tryd.func119 (by kernel_rfl) (by kernel_rfl) (by kernel_rfl) (e := Extern.BytealgIndexByte.indexByte) (by kernel_rfl), Lib.run_indexByteString]
  simp only [Result.andThen]
  rw [Oper.upon_value]
  go_wp2
  go_ret
  exact ⟨rfl, rfl⟩

set_option maxRecDepth 100000 in
set_option maxHeartbeats 1000000 in
theorem stIndexByte_any (s : ByteArray) (z : UInt8) (w : World) :
    Calls Tryd.prog 85 #[.string s, .int .u8 (z.toNat : Int)] w fun e w' => e = .returned (.int .i64 (Lib.indexByte s.data.toList z)) ∧ w = w' := by
  go_enter Tryd.func85, Tryd.ntmps85
  go_wp2_with (go_at_call 111; refine (slIndexByte_any _ _ _).mono ?_; rintro e w' ⟨rfl, rfl⟩)
  go_ret
  exact ⟨rfl, rfl⟩
theorem stIndexByte_at {s : ByteArray} {z : UInt8} {k i : Int} (hk : (z.toNat : Int) = k) (h : Lib.indexByte s.data.toList z = i) (w : World) :
    Calls Tryd.prog 85 #[.string s, .int .u8 k] w fun e w' => e = .returned (.int .i64 i) ∧ w = w' := by
  subst hk; subst h; exact stIndexByte_any s z w
/-- The gate that stands for a byte. -/
def gZ (z : Int) : Value :=
  if z = 97 then .iface 139 (.agg #[.int .i64 0]) else if z = 98 then .iface 139 (.agg #[.int .i64 1]) else if z = 99 then .iface 139 (.agg #[.int .i64 2]) else if z = 100 then .iface 139 (.agg #[.int .i64 3]) else if z = 48 then .iface 149 (.agg #[.int .i64 0]) else if z = 49 then .iface 149 (.agg #[.int .i64 1]) else if z = 33 then .iface 152 (.agg #[]) else if z = 38 then .iface 155 (.agg #[]) else if z = 124 then .iface 156 (.agg #[]) else if z = 94 then .iface 157 (.agg #[]) else if z = 63 then .iface 160 (.agg #[]) else if z = 77 then .iface 161 (.agg #[]) else undef
def gV (c : UInt8) : Value := gZ (c.toNat : Int)
/-- The bytes that stand for something. -/
def isG (z : Int) : Bool := decide (z = 97) || decide (z = 98) || decide (z = 99) || decide (z = 100) || decide (z = 48) || decide (z = 49) || decide (z = 33) || decide (z = 38) || decide (z = 124) || decide (z = 94) || decide (z = 63) || decide (z = 77)
theorem plc_isG : ∀ k < 256, ((plc (UInt8.ofNat k)).isSome = isG ((k : Nat) : Int)) := by decide +kernel
theorem plc_is (c : UInt8) : (plc c).isSome = isG (c.toNat : Int) := by
  have h := plc_isG c.toNat (UInt8.toNat_lt c)
  rwa [UInt8.ofNat_toNat] at h
/-- What lies in the variable of the wrong text. -/
def errV (a : Addr) : Value := .iface 163 (.pointer (some a))
def ErrAt (w : World) (a : Addr) : Prop := w.cell? ⟨0, 0, none⟩ = some (errV a)
def chainOf (a : Addr) : List PanicEntry := [{ v := errV a, recovered := false }]
set_option maxRecDepth 100000 in
set_option maxHeartbeats 1000000 in
theorem gateFor_97 (w : World) :
    Calls Tryd.prog 113 #[.int .u8 97] w fun e w' => e = .returned (gZ 97) ∧ w = w' := by
  have H := Lib.hid (fun w => stIndexByte_at (s := ⟨#[97, 98, 99, 100]⟩) (z := 97) (k := 97) (i := 0) rfl (by decide) w)
  go_enter Tryd.func113, Tryd.ntmps113
  go_wp2_with (go_at_call 85; refine (H.out _).mono ?_; rintro e w' ⟨rfl, rfl⟩)
  go_ret
  exact ⟨rfl, rfl⟩
set_option maxRecDepth 100000 in
set_option maxHeartbeats 1000000 in
theorem gateFor_98 (w : World) :
    Calls Tryd.prog 113 #[.int .u8 98] w fun e w' => e = .returned (gZ 98) ∧ w = w' := by
  have H := Lib.hid (fun w => stIndexByte_at (s := ⟨#[97, 98, 99, 100]⟩) (z := 98) (k := 98) (i := 1) rfl (by decide) w)
  go_enter Tryd.func113, Tryd.ntmps113
  go_wp2_with (go_at_call 85; refine (H.out _).mono ?_; rintro e w' ⟨rfl, rfl⟩)
  go_ret
  exact ⟨rfl, rfl⟩
set_option maxRecDepth 100000 in
set_option maxHeartbeats 1000000 in
theorem gateFor_99 (w : World) :
    Calls Tryd.prog 113 #[.int .u8 99] w fun e w' => e = .returned (gZ 99) ∧ w = w' := by
  have H := Lib.hid (fun w => stIndexByte_at (s := ⟨#[97, 98, 99, 100]⟩) (z := 99) (k := 99) (i := 2) rfl (by decide) w)
  go_enter Tryd.func113, Tryd.ntmps113
  go_wp2_with (go_at_call 85; refine (H.out _).mono ?_; rintro e w' ⟨rfl, rfl⟩)
  go_ret
  exact ⟨rfl, rfl⟩
set_option maxRecDepth 100000 in
set_option maxHeartbeats 1000000 in
theorem gateFor_100 (w : World) :
    Calls Tryd.prog 113 #[.int .u8 100] w fun e w' => e = .returned (gZ 100) ∧ w = w' := by
  have H := Lib.hid (fun w => stIndexByte_at (s := ⟨#[97, 98, 99, 100]⟩) (z := 100) (k := 100) (i := 3) rfl (by decide) w)
  go_enter Tryd.func113, Tryd.ntmps113
  go_wp2_with (go_at_call 85; refine (H.out _).mono ?_; rintro e w' ⟨rfl, rfl⟩)
  go_ret
  exact ⟨rfl, rfl⟩
set_option maxRecDepth 100000 in
set_option maxHeartbeats 1000000 in
theorem gateFor_48 (w : World) :
    Calls Tryd.prog 113 #[.int .u8 48] w fun e w' => e = .returned (gZ 48) ∧ w = w' := by
  have H := Lib.hid (fun w => stIndexByte_at (s := ⟨#[97, 98, 99, 100]⟩) (z := 48) (k := 48) (i := -1) rfl (by decide) w)
  go_enter Tryd.func113, Tryd.ntmps113
  go_wp2_with (go_at_call 85; refine (H.out _).mono ?_; rintro e w' ⟨rfl, rfl⟩)
  go_wp2
  go_ret
  exact ⟨rfl, rfl⟩
set_option maxRecDepth 100000 in
set_option maxHeartbeats 1000000 in
theorem gateFor_49 (w : World) :
    Calls Tryd.prog 113 #[.int .u8 49] w fun e w' => e = .returned (gZ 49) ∧ w = w' := by
  have H := Lib.hid (fun w => stIndexByte_at (s := ⟨#[97, 98, 99, 100]⟩) (z := 49) (k := 49) (i := -1) rfl (by decide) w)
  go_enter Tryd.func113, Tryd.ntmps113
  go_wp2_with (go_at_call 85; refine (H.out _).mono ?_; rintro e w' ⟨rfl, rfl⟩)
  go_wp2
  go_ret
  exact ⟨rfl, rfl⟩
set_option maxRecDepth 100000 in
set_option maxHeartbeats 1000000 in
theorem gateFor_33 (w : World) :
    Calls Tryd.prog 113 #[.int .u8 33] w fun e w' => e = .returned (gZ 33) ∧ w = w' := by
  have H := Lib.hid (fun w => stIndexByte_at (s := ⟨#[97, 98, 99, 100]⟩) (z := 33) (k := 33) (i := -1) rfl (by decide) w)
  go_enter Tryd.func113, Tryd.ntmps113
  go_wp2_with (go_at_call 85; refine (H.out _).mono ?_; rintro e w' ⟨rfl, rfl⟩)
  go_ret
  exact ⟨rfl, rfl⟩
set_option maxRecDepth 100000 in
set_option maxHeartbeats 1000000 in
theorem gateFor_38 (w : World) :
    Calls Tryd.prog 113 #[.int .u8 38] w fun e w' => e = .returned (gZ 38) ∧ w = w' := by
  have H := Lib.hid (fun w => stIndexByte_at (s := ⟨#[97, 98, 99, 100]⟩) (z := 38) (k := 38) (i := -1) rfl (by decide) w)
  go_enter Tryd.func113, Tryd.ntmps113
  go_wp2_with (go_at_call 85; refine (H.out _).mono ?_; rintro e w' ⟨rfl, rfl⟩)
  go_ret
  exact ⟨rfl, rfl⟩
set_option maxRecDepth 100000 in
set_option maxHeartbeats 1000000 in
theorem gateFor_124 (w : World) :
    Calls Tryd.prog 113 #[.int .u8 124] w fun e w' => e = .returned (gZ 124) ∧ w = w' := by
  have H := Lib.hid (fun w => stIndexByte_at (s := ⟨#[97, 98, 99, 100]⟩) (z := 124) (k := 124) (i := -1) rfl (by decide) w)
  go_enter Tryd.func113, Tryd.ntmps113
  go_wp2_with (go_at_call 85; refine (H.out _).mono ?_; rintro e w' ⟨rfl, rfl⟩)
  go_ret
  exact ⟨rfl, rfl⟩
set_option maxRecDepth 100000 in
set_option maxHeartbeats 1000000 in
theorem gateFor_94 (w : World) :
    Calls Tryd.prog 113 #[.int .u8 94] w fun e w' => e = .returned (gZ 94) ∧ w = w' := by
  have H := Lib.hid (fun w => stIndexByte_at (s := ⟨#[97, 98, 99, 100]⟩) (z := 94) (k := 94) (i := -1) rfl (by decide) w)
  go_enter Tryd.func113, Tryd.ntmps113
  go_wp2_with (go_at_call 85; refine (H.out _).mono ?_; rintro e w' ⟨rfl, rfl⟩)
  go_ret
  exact ⟨rfl, rfl⟩
set_option maxRecDepth 100000 in
set_option maxHeartbeats 1000000 in
theorem gateFor_63 (w : World) :
    Calls Tryd.prog 113 #[.int .u8 63] w fun e w' => e = .returned (gZ 63) ∧ w = w' := by
  have H := Lib.hid (fun w => stIndexByte_at (s := ⟨#[97, 98, 99, 100]⟩) (z := 63) (k := 63) (i := -1) rfl (by decide) w)
  go_enter Tryd.func113, Tryd.ntmps113
  go_wp2_with (go_at_call 85; refine (H.out _).mono ?_; rintro e w' ⟨rfl, rfl⟩)
  go_ret
  exact ⟨rfl, rfl⟩
set_option maxRecDepth 100000 in
set_option maxHeartbeats 1000000 in
theorem gateFor_77 (w : World) :
    Calls Tryd.prog 113 #[.int .u8 77] w fun e w' => e = .returned (gZ 77) ∧ w = w' := by
  have H := Lib.hid (fun w => stIndexByte_at (s := ⟨#[97, 98, 99, 100]⟩) (z := 77) (k := 77) (i := -1) rfl (by decide) w)
  go_enter Tryd.func113, Tryd.ntmps113
  go_wp2_with (go_at_call 85; refine (H.out _).mono ?_; rintro e w' ⟨rfl, rfl⟩)
  go_ret
  exact ⟨rfl, rfl⟩
theorem index_no {z : UInt8} (h : isG (z.toNat : Int) = false) : Lib.indexByte (⟨#[97, 98, 99, 100]⟩ : ByteArray).data.toList z = -1 := by
  have hall : ∀ k < 256, isG ((k : Nat) : Int) = false → Lib.indexByte [97, 98, 99, 100] (UInt8.ofNat k) = -1 := by decide +kernel
  have := hall z.toNat (UInt8.toNat_lt z) h
  rwa [UInt8.ofNat_toNat] at this
set_option maxRecDepth 100000 in
set_option maxHeartbeats 1000000 in
theorem gateFor_no {z : UInt8} {k : Int} (hk : (z.toNat : Int) = k) (h : isG k = false) (a : Addr) (w : World) (hE : ErrAt w a) :
    Calls Tryd.prog 113 #[.int .u8 k] w fun e w' => e = .panicked (chainOf a) ∧ w = w' := by
  have H := Lib.hid (fun w => stIndexByte_at (s := ⟨#[97, 98, 99, 100]⟩) hk (index_no (by rw [hk]; exact h)) w)
  unfold ErrAt errV at hE
  have h' := h
  simp only [isG, Bool.or_eq_false_iff, decide_eq_false_iff_not] at h'
  clear h hk
  obtain ⟨⟨⟨⟨⟨⟨⟨⟨⟨⟨⟨n1, n2⟩, n3⟩, n4⟩, n5⟩, n6⟩, n7⟩, n8⟩, n9⟩, n10⟩, n11⟩, n12⟩ := h'
  have c5 : ((k : Int) == 48) = false := by simpa using n5
  have c6 : ((k : Int) == 49) = false := by simpa using n6
  have c7 : ((k : Int) == 33) = false := by simpa using n7
  have c8 : ((k : Int) == 38) = false := by simpa using n8
  have c9 : ((k : Int) == 124) = false := by simpa using n9
  have c10 : ((k : Int) == 94) = false := by simpa using n10
  have c11 : ((k : Int) == 63) = false := by simpa using n11
  have c12 : ((k : Int) == 77) = false := by simpa using n12
  clear n1 n2 n3 n4 n5 n6 n7 n8 n9 n10 n11 n12
  go_enter Tryd.func113, Tryd.ntmps113
  go_wp2_with (go_at_call 85; refine (H.out _).mono ?_; rintro e w' ⟨rfl, rfl⟩)
  exact ⟨rfl, rfl, rfl⟩
theorem gateFor_any {z : UInt8} (h : (plc z).isSome = true) (w : World) :
    Calls Tryd.prog 113 #[.int .u8 (z.toNat : Int)] w fun e w' => e = .returned (gV z) ∧ w = w' := by
  rw [plc_is] at h
  unfold gV
  generalize (z.toNat : Int) = k at h
  simp only [isG, Bool.or_eq_true, decide_eq_true_eq] at h
  rcases h with ((((((((((h | h) | h) | h) | h) | h) | h) | h) | h) | h) | h) | h <;> subst h
  · exact gateFor_97 w
  · exact gateFor_98 w
  · exact gateFor_99 w
  · exact gateFor_100 w
  · exact gateFor_48 w
  · exact gateFor_49 w
  · exact gateFor_33 w
  · exact gateFor_38 w
  · exact gateFor_124 w
  · exact gateFor_94 w
  · exact gateFor_63 w
  · exact gateFor_77 w
end Go.Proofs.YtleighihfgabkaaDoor
