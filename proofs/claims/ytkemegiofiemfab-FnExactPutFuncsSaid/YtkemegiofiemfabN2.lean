/-
  The closures of PutFuncs; haveOneArity.
-/
import Derived.Test.YtkemegiofiemfabN1
import Derived.Test.YtkemegiofiemfabL4
import Derived.Test.YtkemegiofiemfabC4
namespace Go.Proofs.Ytkemegiofiemfab
open Go.RowKit
set_option linter.unusedVariables false

theorem hold3 {W w' w : World} {a b c d : Addr} {u v y z : Value} (hb : Below W.heap.size W w') (h : ((W.cell? a = some u ∧ W.cell? b = some v) ∧ (W.cell? c = some y ∧ W.cell? d = some z)) ∧ Below w.heap.size w W) :
    ((w'.cell? a = some u ∧ w'.cell? b = some v) ∧ (w'.cell? c = some y ∧ w'.cell? d = some z)) ∧ Below w.heap.size w w' := ⟨⟨⟨kc hb h.1.1.1, kc hb h.1.1.2⟩, kc hb h.1.2.1, kc hb h.1.2.2⟩, bthen h.2 hb⟩

set_option maxRecDepth 100000 in
set_option maxHeartbeats 1000000 in
theorem PutFuncs2_any (bl br g cap L i r : Nat) (p : Int × Int) (y : Nat) (hp : p.2 = (y : Int)) (hy : y < 2 ^ 62) (hr : r < 62) (hi : i < L) (hL : L ≤ 1048576) (w : World) (hcl : w.cell? ⟨bl, 0, none⟩ = some (.slice (some ⟨g, 0, none⟩) L cap)) (hcr : w.cell? ⟨br, 0, none⟩ = some (.int .i64 (r : Int)))
    (h0 : w.cell? ⟨g, i * 2, none⟩ = some (.int .i64 p.1)) (h1 : w.cell? ⟨g, i * 2 + 1, none⟩ = some (.int .i64 p.2)) :
    Calls Try.prog 82 #[.int .i64 (i : Int), .pointer (some ⟨bl, 0, none⟩), .pointer (some ⟨br, 0, none⟩)] w fun e w' => e = .returned (.int .i64 (bitN y r : Int)) ∧ Below w.heap.size w w' := by
  rw [hp] at h1
  have V := Lib.hid (valueInRow_any p.1 y r hy hr)
  clear hp
  have i0 : (0 : Int) ≤ (i : Int) := by omega
  have i1 : ((i : Int) < (L : Int)) := by omega
  go_enter Try.func82, Try.ntmps82
  go_wp2_with fail
  go_region_held3 (fun w' => ((w'.cell? ⟨bl, 0, none⟩ = some (.slice (some ⟨g, 0, none⟩) L cap) ∧ w'.cell? ⟨br, 0, none⟩ = some (.int .i64 (r : Int))) ∧ (w'.cell? ⟨g, i * 2, none⟩ = some (.int .i64 p.1) ∧ w'.cell? ⟨g, i * 2 + 1, none⟩ = some (.int .i64 (y : Int)))) ∧ Below w.heap.size w w') (first | exact ⟨⟨⟨hcl, hcr⟩, h0, h1⟩, (Below.refl _ _).drew⟩ | exact hold3 hb1 (by assumption))
    (first
      | (go_at_call 80; refine (V.out _).mono ?_; rintro e w' ⟨rfl, hb1⟩))
  go_wp2
  go_ret
  exact ⟨rfl, (‹(_ ∧ _) ∧ Below _ _ _›).2⟩

/-- Where the values of the functions of a list lie. -/
def putRow (xs : List (Int × Int)) (m r : Nat) : Nat := sumN (fun i => bitN (fget xs i).2.toNat r) m
/-- The function that is made by putting functions into a function. -/
def putN (xs : List (Int × Int)) (m x r : Nat) : Nat := bitN x (putRow xs m r)
theorem putRow_lt (xs : List (Int × Int)) (m r : Nat) (hm : m ≤ 4) : putRow xs m r < 16 := by
  have h1 := sumN_lt (fun i => bitN (fget xs i).2.toNat r) m (fun i _ => bitN_le _ _)
  have h2 : (2 : Nat) ^ m ≤ 2 ^ 4 := Nat.pow_le_pow_right (by decide) hm
  unfold putRow
  omega
theorem fok_nat {p : Int × Int} (h : isF p.1 p.2 = true) : p.2 = (p.2.toNat : Int) ∧ p.2.toNat < 2 ^ 62 := by
  obtain ⟨x, R, e, ok⟩ := fok h
  have := ok.hx
  rw [e]
  simp
  omega

set_option maxRecDepth 100000 in
set_option maxHeartbeats 1000000 in
theorem PutFuncs1_any (bf bl r g cap m x R : Nat) (xs : List (Int × Int)) (ok : FOk (m : Int) x R) (hr : r < 62) (hm : m ≤ 4) (hx : ∀ i, i < m → isF (fget xs i).1 (fget xs i).2 = true) (w : World) (hf : FBox bf (m : Int) x w) (hcl : w.cell? ⟨bl, 0, none⟩ = some (.slice (some ⟨g, 0, none⟩) m cap))
    (hci : ∀ i, i < m → w.cell? ⟨g, i * 2, none⟩ = some (.int .i64 (fget xs i).1) ∧ w.cell? ⟨g, i * 2 + 1, none⟩ = some (.int .i64 (fget xs i).2)) :
    Calls Try.prog 79 #[.int .i64 (r : Int), .pointer (some ⟨bf, 0, none⟩), .pointer (some ⟨bl, 0, none⟩)] w fun e w' => e = .returned (.int .i64 (putN xs m x r : Int)) ∧ Below w.heap.size w w' := by
  have hx2 := ok.hx
  have hrow := putRow_lt xs m r hm
  obtain ⟨c0, c1⟩ := hf
  obtain ⟨W1, hW1⟩ : ∃ W1, w.alloc (.cells #[.int .i64 (r : Int)] 2) = W1 := ⟨_, rfl⟩
  have cr : W1.cell? ⟨w.heap.size, 0, none⟩ = some (.int .i64 (r : Int)) := by rw [← hW1]; simp [go_sem]
  have hB : Below w.heap.size w W1 := by rw [← hW1]; exact bnew _ _
  have RW := Lib.hid (fun W (hW : Below W1.heap.size W1 W) => rowWith_any m hm 82 #[.pointer (some ⟨bl, 0, none⟩), .pointer (some ⟨w.heap.size, 0, none⟩)] (enters_of Try.func82 (by kernel_rfl) rfl)
    (fun i => bitN (fget xs i).2.toNat r) (fun i _ => bitN_le _ _) W (Lib.hid fun W' hW' i hi => PutFuncs2_any bl w.heap.size g cap m i r (fget xs i) _ (fok_nat (hx i hi)).1 (fok_nat (hx i hi)).2 hr hi (by omega) W' (kc hW' (kc hW (kc hB hcl))) (kc hW' (kc hW cr)) (kc hW' (kc hW (kc hB (hci i hi).1))) (kc hW' (kc hW (kc hB (hci i hi).2)))))
  have d0 := kc hB c0
  have d1 := kc hB c1
  clear c0 c1 hci hcl hx
  go_enter Try.func79, Try.ntmps79
  go_wp2_with fail
  clear hW1
  go_region_held3 (fun w' => (w'.cell? ⟨bf, 0, none⟩ = some (.int .i64 (m : Int)) ∧ w'.cell? ⟨bf, 1, none⟩ = some (.int .i64 (x : Int))) ∧ Below W1.heap.size W1 w') (first | exact ⟨⟨d0, d1⟩, (Below.refl _ _).drew⟩ | exact step_heldW hb5 (by assumption))
    (first
      | (go_at_call 81; refine (RW.out _ (‹(_ ∧ _) ∧ Below W1.heap.size W1 _›).2).mono ?_; rintro e w5 ⟨rfl, hb5⟩)
      | (go_at_call 80; refine (valueInRow_any _ x (putRow xs m r) hx2 (by omega) _).mono ?_; rintro e w5 ⟨rfl, hb5⟩))
  have hB3 := bthen hB (‹(_ ∧ _) ∧ Below W1.heap.size W1 _›).2
  go_wp2
  go_ret
  exact ⟨rfl, hB3⟩

/-- The functions below j have the arity of the first one. -/
def oneTo (xs : List (Int × Int)) (j : Nat) : Bool := allLt j fun i => (fget xs i).1 == (fget xs 0).1
theorem oneTo_succ (xs : List (Int × Int)) (j : Nat) : oneTo xs (j + 1) = (oneTo xs j && (fget xs j).1 == (fget xs 0).1) := allLt_succ _ _
theorem oneTo_false {xs : List (Int × Int)} {k m : Nat} (hk : k < m) (h : ((fget xs k).1 == (fget xs 0).1) = false) : oneTo xs m = false := by
  cases hc : oneTo xs m
  · rfl
  · have := allLt_iff.1 hc k hk
    rw [h] at this
    cases this

set_option maxRecDepth 100000 in
set_option maxHeartbeats 2000000 in
theorem haveOneArity_any {base : Nat} {s : Value} {xs : List (Int × Int)} (hl : xs.length ≤ 1048576) (w : World) (h : OwnsF w base s xs) {b : Bool} (hb : oneTo xs xs.length = b) :
    Calls Try.prog 77 #[s] w fun e w' => e = .returned (.bool b) ∧ Below w.heap.size w w' := by
  obtain ⟨a, cap, rfl, hrow⟩ := h.cells
  have HROW := Lib.hid hrow
  have HBB := Lib.hid hb
  clear h hrow hb
  generalize hL : xs.length = L at hl HROW HBB ⊢
  clear hL
  go_enter Try.func77, Try.ntmps77
  go_wp2
  go_loopw [7] (fun i' wr => ∃ i : Nat, i ≤ L ∧ i' = .int .i64 i ∧ Hid (oneTo xs i = true) ∧ Below w.heap.size w wr) (fun i' _ => L - (intOf i').toNat)
  case atStart => exact ⟨0, Nat.zero_le _, rfl, Lib.hid rfl, Below.refl _ _⟩
  case round =>
    obtain ⟨i, hi, rfl, hm, hB⟩ := hrel
    by_cases hlt : i < L
    · obtain ⟨g, rfl, hg, hc⟩ : ∃ g, a = some ⟨g, 0, none⟩ ∧ g < w.heap.size ∧ Hid (∀ j, j < L → w.cell? ⟨g, j * 2, none⟩ = some (.int .i64 (fget xs j).1) ∧ w.cell? ⟨g, j * 2 + 1, none⟩ = some (.int .i64 (fget xs j).2)) := by
        rcases HROW.out with h0 | h1
        · omega
        · exact h1
      obtain ⟨c0, c1⟩ := hc.out i hlt
      obtain ⟨z0, _⟩ := hc.out 0 (by omega)
      have d0 := (hB.cell (p := ⟨g, i * 2, none⟩) hg).trans c0
      have d1 := (hB.cell (p := ⟨g, i * 2 + 1, none⟩) hg).trans c1
      have dz := (hB.cell (p := ⟨g, 0 * 2, none⟩) hg).trans z0
      have hs := hB.size
      have hgl : g < wr.heap.size := by omega
      simp only [Nat.zero_mul] at dz
      clear c0 c1 z0
      have i0 : (0 : Int) < (L : Int) := by omega
      obtain ⟨W2, hW2⟩ : ∃ W2, wr.alloc (.cells #[.int .i64 (fget xs i).1, .int .i64 (fget xs i).2] 26) = W2 := ⟨_, rfl⟩
      have p0 : W2.cell? ⟨wr.heap.size, 0, none⟩ = some (.int .i64 (fget xs i).1) := by rw [← hW2]; simp [go_sem]
      have hb2 : Below wr.heap.size wr W2 := by rw [← hW2]; exact bnew _ _
      have ez := kc hb2 dz
      cases hf : (fget xs i).1 == (fget xs 0).1
      · have hne : ((fget xs i).1 != (fget xs 0).1) = true := by simp [bne, hf]
        obtain rfl : b = false := HBB.out.symm.trans (oneTo_false hlt hf)
        clear hf
        go_wp2
        clear hW2
        go_quiet (fail)
        go_wp2
        go_ret
        exact ⟨rfl, below_drewN (bthen hB hb2) _⟩
      · have hne : ((fget xs i).1 != (fget xs 0).1) = false := by simp [bne, hf]
        have HM := Lib.hid (show oneTo xs (i + 1) = true by rw [oneTo_succ, hm.out, hf]; rfl)
        clear hf
        go_wp2
        clear hW2
        go_quiet (fail)
        go_wp2
        go_roundw
        case rel => exact ⟨i + 1, by omega, by go_num, HM, below_drewN (bthen hB hb2) _⟩
        case measure => simp [intOf]; omega
    · obtain rfl : i = L := by omega
      obtain rfl : b = true := HBB.out.symm.trans hm.out
      go_wp2
      go_ret
      exact ⟨rfl, hB⟩
end Go.Proofs.Ytkemegiofiemfab
