/-
  The closures of chapter 1 that hand out values in rows, and the functions that are made by them (the roads without errors).
-/
import Derived.Test.YtclpfjedijpnfaaR3
namespace Go.Proofs.Ytclpfjedijpnfaa
open Go.RowKit

/-- The cells of a captured function. -/
structure FBox (b : Nat) (n : Int) (x : Nat) (W : World) : Prop where
  c0 : W.cell? ⟨b, 0, none⟩ = some (.int .i64 n)
  c1 : W.cell? ⟨b, 1, none⟩ = some (.int .i64 (x : Int))
theorem FBox.keep {b : Nat} {n : Int} {x : Nat} {W W' : World} (h : FBox b n x W) (hb : Below W.heap.size W W') : FBox b n x W' := ⟨kc hb h.c0, kc hb h.c1⟩
theorem FBox.drew {b : Nat} {n : Int} {x : Nat} {W : World} (h : FBox b n x W) : FBox b n x W.drew := ⟨h.c0, h.c1⟩

/-- What a valid function's numbers are. -/
structure FOk (n : Int) (x R : Nat) : Prop where
  h0 : 0 ≤ n
  h4 : n ≤ 4
  r0 : 0 < R
  r16 : R ≤ 16
  hR : Hid (rowsN n = (R : Int))
  hx : x < 2 ^ 62

set_option maxRecDepth 100000 in
set_option maxHeartbeats 1000000 in
theorem Dual1_any {n : Int} {x R : Nat} (ok : FOk n x R) (b r : Nat) (hr : r < R) (w : World) (hb : FBox b n x w) :
    Calls Try.prog 82 #[.int .i64 (r : Int), .pointer (some ⟨b, 0, none⟩)] w fun e w' => e = .returned (.int .i64 ((1 - bitN x (R - 1 - r) : Nat) : Int)) ∧ Below w.heap.size w w' := by
  have r16 := ok.r16
  have hle := bitN_le x (R - 1 - r)
  obtain ⟨c0, c1⟩ := hb
  have e1 : ((1 - bitN x (R - 1 - r) : Nat) : Int) = 1 - (bitN x (R - 1 - r) : Int) := by omega
  rw [e1]
  clear e1
  have vc : ∀ (W : World), Calls Try.prog 83 #[.agg #[.int .i64 n, .int .i64 (x : Int)], .int .i64 ((R : Int) - 1 - (r : Int))] W fun e w' => e = .returned (.int .i64 (bitN x (R - 1 - r) : Int)) ∧ Below W.heap.size W w' := fun W => by
    have := valueInRow_any n x (R - 1 - r) ok.hx (by omega) W
    rwa [show ((R - 1 - r : Nat) : Int) = (R : Int) - 1 - (r : Int) from by omega] at this
  have VC := Lib.hid vc
  clear vc
  have ew := wrap64_small (x := (R : Int) - 1 - (r : Int)) (by omega) (by omega)
  have ew2 := wrap64_small (x := 1 - (bitN x (R - 1 - r) : Int)) (by omega) (by omega)
  go_enter Try.func82, Try.ntmps82
  go_wp2
  go_region_held3 (fun w' => w'.cell? ⟨b, 0, none⟩ = some (.int .i64 n) ∧ w'.cell? ⟨b, 1, none⟩ = some (.int .i64 (x : Int))) (first | exact ⟨c0, c1⟩ | exact ⟨d0, d1⟩)
    (first
      | (go_at_call 84; refine (lastRow_is ok.h0 ok.h4 ok.r0 ok.r16 ok.hR _).mono ?_; rintro e w' ⟨rfl, rfl⟩)
      | (go_at_call 83; refine (VC.out _).mono ?_; rintro e w' ⟨rfl, hb1⟩; have d0 := kcd hb1 c0; have d1 := kcd hb1 c1))
  go_wp2
  go_ret
  exact ⟨rfl, bthen (Below.refl w.heap.size w).drew hb1⟩
end Go.Proofs.Ytclpfjedijpnfaa
