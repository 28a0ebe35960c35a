/-
  Digits as texts.
-/
import Derived.Test.YtkemegiofiemfabS2
import Derived.Laws.IdiomStrings
namespace Go.Proofs.Ytkemegiofiemfab
open Go.RowKit
set_option linter.unusedVariables false

/-- The byte of a digit. -/
def dgB (d : Nat) : UInt8 := UInt8.ofNat (48 + d)

theorem dgB_nat (d : Nat) (hd : d < 200) : (dgB d).toNat = 48 + d := by
  unfold dgB
  rw [UInt8.toNat_ofNat']
  exact Nat.mod_eq_of_lt (by omega)

set_option maxRecDepth 100000 in
set_option maxHeartbeats 2000000 in
theorem l01Dec_any (d : Nat) (hd : d < 10) (w : World) :
    Calls Try.prog 142 #[.int .i64 (d : Int)] w fun e w' => e = .returned (.string ⟨#[dgB d]⟩) ∧ Below w.heap.size w w' := by
  have hcv := run_convert_bytes_back (P := Try.prog) (w.alloc (.cells #[.int .u8 (48 + (d : Int))] 5)) 45 9 5 ⟨w.heap.size, 0, none⟩ 1 [dgB d] Try.underlying45 Try.underlying5 Try.underlying9 (fun j hj => by
    obtain rfl : j = 0 := by simpa using hj
    have := dgB_nat d (by omega)
    simp [go_sem, Addr.add, this])
  simp only [List.length_cons, List.length_nil, Nat.zero_add] at hcv
  go_enter Try.func142, Try.ntmps142
  go_wp2_with fail
  go_ret
  exact ⟨rfl, bnew _ _⟩
end Go.Proofs.Ytkemegiofiemfab
