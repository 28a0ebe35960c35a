/-
  funcByRows: a function made by its values in the rows, whatever closure hands them out.
-/
import Derived.Test.YtcolaggkeekgoaaR0
namespace Go.Proofs.Ytcolaggkeekgoaa
open Go.RowKit Go.Shelf
attribute [local go_sem] Oper.semAt_some

theorem cell_lt {W : World} {a : Addr} {u : Value} (h : W.cell? a = some u) : a.block < W.heap.size := by
  obtain ⟨o, ho, _⟩ := cells_of_cell h
  exact (Array.getElem?_eq_some_iff.1 ho).1

theorem kc {W w' : World} (hb : Below W.heap.size W w') {a : Addr} {u : Value} (h : W.cell? a = some u) : w'.cell? a = some u := (hb.cell (cell_lt h)).trans h
theorem kf {W w' : World} (hb : Below W.heap.size W w') {a : Addr} {u : Value} (h : W.cell? a = some u) (hf : W.frozen? a = false) : w'.frozen? a = false := (hb.frozen (cell_lt h)).trans hf
theorem kcd {W w' : World} (hb : Below W.drew.heap.size W.drew w') {a : Addr} {u : Value} (h : W.cell? a = some u) : w'.cell? a = some u := kc hb ((cell_drew_own W a).trans h)
theorem kfd {W w' : World} (hb : Below W.drew.heap.size W.drew w') {a : Addr} {u : Value} (h : W.cell? a = some u) (hf : W.frozen? a = false) : w'.frozen? a = false := kf hb ((cell_drew_own W a).trans h) ((frozen_drew_own W a).trans hf)

/-- The bits of values in rows, one after the other. -/
def orBits {R : Nat} (v : Nat → Nat) (pre : List (Row R)) : Nat := pre.foldl (fun b x => b ||| (v x.1 <<< x.1)) 0
theorem orBits_snoc {R : Nat} (v : Nat → Nat) (pre : List (Row R)) (x : Row R) : orBits v (pre ++ [x]) = orBits v pre ||| (v x.1 <<< x.1) := by simp [orBits]

theorem orBits_lt {R : Nat} (hR16 : R ≤ 16) (v : Nat → Nat) (hv : ∀ r, r < R → v r ≤ 1) (pre : List (Row R)) : orBits v pre < 65536 := by
  unfold orBits
  suffices h : ∀ (l : List (Row R)) (b : Nat), b < 2 ^ 16 → l.foldl (fun b x => b ||| (v x.1 <<< x.1)) b < 2 ^ 16 from h pre 0 (by decide)
  intro l
  induction l with
  | nil => intro b hb; exact hb
  | cons x l ih =>
    intro b hb
    refine ih _ (Nat.or_lt_two_pow hb ?_)
    have h1 := hv x.1 x.2
    have h2 := x.2
    rw [Nat.shiftLeft_eq]
    have h3 : (2 : Nat) ^ x.1 < 2 ^ 16 := Nat.pow_lt_pow_right (by decide) (by omega)
    calc v x.1 * 2 ^ x.1 ≤ 1 * 2 ^ x.1 := Nat.mul_le_mul_right _ h1
      _ < 2 ^ 16 := by omega

theorem wrap64_small {x : Int} (h0 : 0 ≤ x) (h1 : x < 9223372036854775808) : IntKind.i64.wrap x = x := by
  simp [IntKind.wrap, IntKind.bits, IntKind.signed]; omega

theorem bits_or_nat (x y : Nat) (hx : x < 2 ^ 62) (hy : y < 2 ^ 62) : bits .or .i64 (x : Int) (y : Int) = ((x ||| y : Nat) : Int) := by
  have h : x ||| y < 2 ^ 62 := Nat.or_lt_two_pow hx hy
  have h64 : (2 : Nat) ^ 62 < 2 ^ 64 := by decide
  show IntKind.i64.wrap ((BitVec.ofInt 64 (x : Int) ||| BitVec.ofInt 64 (y : Int)).toNat : Int) = _
  rw [BitVec.ofInt_natCast, BitVec.ofInt_natCast, BitVec.toNat_or, BitVec.toNat_ofNat, BitVec.toNat_ofNat, Nat.mod_eq_of_lt (Nat.lt_trans hx h64), Nat.mod_eq_of_lt (Nat.lt_trans hy h64)]
  exact wrap64_small (by omega) (by omega)

theorem shl_nat (x r : Nat) (hx : x ≤ 1) (hr : r < 16) : IntKind.i64.wrap ((x : Int) * 2 ^ r) = ((x <<< r : Nat) : Int) ∧ x <<< r < 2 ^ 62 := by
  have h3 : (2 : Nat) ^ r < 2 ^ 16 := Nat.pow_lt_pow_right (by decide) hr
  have h4 : x * 2 ^ r ≤ 1 * 2 ^ r := Nat.mul_le_mul_right _ hx
  have e : (x : Int) * 2 ^ r = ((x * 2 ^ r : Nat) : Int) := by push_cast; rfl
  rw [Nat.shiftLeft_eq, e]
  exact ⟨wrap64_small (by omega) (by omega), by omega⟩

theorem or_step (b x r : Nat) (hb : b < 65536) (hx : x ≤ 1) (hr : r < 16) : bits .or .i64 (b : Int) (IntKind.i64.wrap ((x : Int) * 2 ^ r)) = ((b ||| (x <<< r) : Nat) : Int) := by
  obtain ⟨e, h⟩ := shl_nat x r hx hr
  rw [e]
  exact bits_or_nat _ _ (by omega) h

/-- What a call leaves that only makes memory: whatever is no cells lies as it lay. -/
theorem kot {W w' : World} (hb : Below W.drew.heap.size W.drew w') : KeepsOthers W w' :=
  ⟨hb.size, fun k _ hk _ => (hb.block k (Array.getElem?_eq_some_iff.1 hk).1).trans hk⟩

/-- funcByRows between two rounds: its boxes. -/
structure FMid (B : Nat) (fv : Value) (m : Int) (b : Nat) (W : World) : Prop where
  c3 : W.cell? ⟨B, 0, none⟩ = some fv
  c40 : W.cell? ⟨B + 1, 0, none⟩ = some (.int .i64 0)
  c41 : W.cell? ⟨B + 1, 1, none⟩ = some (.int .i64 0)
  c50 : W.cell? ⟨B + 1 + 1, 0, none⟩ = some (.int .i64 m)
  c51 : W.cell? ⟨B + 1 + 1, 1, none⟩ = some (.int .i64 (b : Int))
  f40 : W.frozen? ⟨B + 1, 0, none⟩ = false
  f41 : W.frozen? ⟨B + 1, 1, none⟩ = false
  f51 : W.frozen? ⟨B + 1 + 1, 1, none⟩ = false

theorem FMid.kept {B : Nat} {fv : Value} {m : Int} {b : Nat} {W W' : World} {row : Option Nat} (h : FMid B fv m b W) (hg : W.grownBy W' row) (hr : ∀ r, row = some r → ∃ o : Obj, W.heap[r]? = some o ∧ o.isCells = false) : FMid B fv m b W' :=
  ⟨cell_kept h.c3 hg hr, cell_kept h.c40 hg hr, cell_kept h.c41 hg hr, cell_kept h.c50 hg hr, cell_kept h.c51 hg hr, (frozen_kept h.c40 hg hr).trans h.f40, (frozen_kept h.c41 hg hr).trans h.f41, (frozen_kept h.c51 hg hr).trans h.f51⟩

theorem FMid.step {B : Nat} {fv : Value} {m : Int} {b b2 : Nat} {W w' : World} (h : FMid B fv m b W) (hb : Below W.drew.heap.size W.drew w') : FMid B fv m b2 (w'.setCell ⟨B + 1 + 1, 1, none⟩ (.int .i64 (b2 : Int))) := by
  have d3 := kcd hb h.c3
  have d40 := kcd hb h.c40
  have d41 := kcd hb h.c41
  have d50 := kcd hb h.c50
  have d51 := kcd hb h.c51
  exact ⟨by simp [go_sem, d3], by simp [go_sem, d40], by simp [go_sem, d41], by simp [go_sem, d50], by simp [go_sem, d51],
    by rw [World.frozen?_setCell]; exact kfd hb h.c40 h.f40, by rw [World.frozen?_setCell]; exact kfd hb h.c41 h.f41, by rw [World.frozen?_setCell]; exact kfd hb h.c51 h.f51⟩

set_option maxRecDepth 100000 in
set_option maxHeartbeats 2000000 in
theorem funcByRows_any (m : Int) (h0 : 0 ≤ m) (h4 : m ≤ 4) (R : Nat) (hR0 : 0 < R) (hR16 : R ≤ 16) (hR : Hid (rowsN m = (R : Int))) (g : Nat) (cap : Array Value)
    (eg : ∀ args w, (callFunc g args).run Try.prog w = .ok (.enter g args) w) (v : Nat → Nat) (hv : ∀ r, r < R → v r ≤ 1) (w : World)
    (hval : Hid (∀ W, Below w.heap.size w W → ∀ r : Nat, r < R → Calls Try.prog g (#[.int .i64 (r : Int)] ++ cap) W fun e W' => e = .returned (.int .i64 (v r : Int)) ∧ Below W.heap.size W W')) :
    Calls Try.prog 53 #[.int .i64 m, .func (.func g) #[] cap] w fun e w' => e = .returned (.agg #[.int .i64 m, .int .i64 (orBits v (upto hR0 R) : Int)]) ∧ Below w.heap.size w w' := by
  refine (callsIn_wide (n := 3)).1 ?_
  refine callsIn_of_wp_marks Try.func53 rfl trivial ?_ rfl
  simp only [Try.ntmps53, List.size_toArray, List.length_cons, List.length_nil, Nat.reduceAdd, Nat.reduceSub, Array.replicate_succ, Array.replicate_zero, List.push_toArray, List.append_toArray, List.nil_append, List.cons_append]
  gi_wp2_with (refine ⟨trivial, ?_⟩; gi_at_call 84; refine (callsIn_wide.2 (rowsOf_any _ _)).mono ?_; rintro e w' ⟨rfl, rfl⟩)
  obtain ⟨W0, hW0⟩ : ∃ W0, ((((w.alloc (.cells #[.func (.func g) #[] cap] 55)).alloc (.cells #[.int .i64 0, .int .i64 0] 24)).alloc (.cells #[.int .i64 m, .int .i64 0] 24)).alloc (.cells #[.int .i64 m] 2)) = W0 := ⟨_, rfl⟩
  have c3 : W0.cell? ⟨w.heap.size, 0, none⟩ = some (.func (.func g) #[] cap) := by rw [← hW0]; simp [go_sem]
  have c40 : W0.cell? ⟨w.heap.size + 1, 0, none⟩ = some (.int .i64 0) := by rw [← hW0]; simp [go_sem]
  have c41 : W0.cell? ⟨w.heap.size + 1, 1, none⟩ = some (.int .i64 0) := by rw [← hW0]; simp [go_sem]
  have c50 : W0.cell? ⟨w.heap.size + 1 + 1, 0, none⟩ = some (.int .i64 m) := by rw [← hW0]; simp [go_sem]
  have c51 : W0.cell? ⟨w.heap.size + 1 + 1, 1, none⟩ = some (.int .i64 0) := by rw [← hW0]; simp [go_sem]
  have cR : W0.cell? ⟨w.heap.size + 1 + 1 + 1, 0, none⟩ = some (.int .i64 m) := by rw [← hW0]; simp [go_sem]
  have f40 : W0.frozen? ⟨w.heap.size + 1, 0, none⟩ = false := by rw [← hW0]; simp [go_sem]
  have f41 : W0.frozen? ⟨w.heap.size + 1, 1, none⟩ = false := by rw [← hW0]; simp [go_sem]
  have f51 : W0.frozen? ⟨w.heap.size + 1 + 1, 1, none⟩ = false := by rw [← hW0]; simp [go_sem]
  have hsz : W0.heap.size = w.heap.size + 4 := by rw [← hW0]; simp [go_sem]
  have hB0 : Below w.heap.size w W0 := by rw [← hW0]; exact balloc (balloc (balloc (bnew _ _) _) _) _
  rw [hW0]
  clear hW0
  refine wpIn_rangeFunc_ownF (α := Row R) rfl (by omega) (gf := 100) (lb := #[.pointer (some ⟨w.heap.size + 1 + 1 + 1, 0, none⟩)]) rfl trivial (enters_of Try.func100 (by kernel_rfl) rfl)
    (rows_stops (3 - 1) (by omega) (w.heap.size + 1 + 1 + 1) w.heap.size m R h0 h4 hR0 hR16 hR W0 (by omega) cR) belowK_t (belowK_b (by omega)) (Below.refl _ _) (fun _ => rfl)
    (fun pre W => FMid w.heap.size (.func (.func g) #[] cap) m (orBits v pre) W ∧ Below w.heap.size w W)
    (fun _ _ _ => False)
    (OwnFrom.and (Own.from (fun s A B row hs hg hr => hs.kept hg hr) _) (ownFrom_below (Nat.le_refl _) (by omega)))
    (fun _ _ _ _ _ hs _ _ => hs)
    ⟨⟨c3, c40, c41, c50, by simpa [orBits] using c51, f40, f41, f51⟩, hB0⟩
    (fun x => { tmps := #[.int .i64 m, .func (.func g) #[] cap, undef, .pointer (some ⟨w.heap.size, 0, none⟩), .pointer (some ⟨w.heap.size + 1, 0, none⟩), .pointer (some ⟨w.heap.size + 1 + 1, 0, none⟩), .int .i64 (x.1 : Int), .int .i64 m,
      .agg #[.int .i64 m, .int .i64 0], .int .i64 m, .func (.func 100) #[] #[.pointer (some ⟨w.heap.size + 1 + 1 + 1, 0, none⟩)], .int .i64 (x.1 : Int), undef, undef, undef, undef, undef, undef, undef, undef, undef, undef], defers := [] }) ?assign ?body ?done ?stop
  case assign =>
    intro l x W K hK
    unfold encRow
    gi_wp2
    exact hK
  case body =>
    clear c3 c40 c41 c50 c51 cR f40 f41 f51
    rintro l pre x W ⟨hM, hB⟩ _
    have HM := Lib.hid hM
    have c3 := hM.c3
    have c51 := hM.c51
    have f51 := hM.f51
    have hlb := orBits_lt hR16 v hv pre
    clear hM
    have hx := x.2
    have hvx := hv _ hx
    have hos : orBits v (pre ++ [x]) = orBits v pre ||| (v x.1 <<< x.1) := orBits_snoc v pre x
    generalize x.1 = r at hx hvx hos ⊢
    have HOS := Lib.hid hos
    clear hos
    have HV := Lib.hid (or_step (orBits v pre) (v r) r hlb hvx (by omega))
    clear hlb
    have hmx : Try.prog.follows .mixedOrders = true := by kernel_rfl
    have hd : 1 ≤ 3 - 1 - 1 := by omega
    have hlt : w.heap.size + 1 + 1 < W.heap.size := cell_lt c51
    gi_wp2
    refine wpIn_region_any hmx ?_
    refine wpAnyIn_round (F := Fence.wide) l (by kernel_rfl) _ _ _ _ ?_
    change wpAnyIn _ _ _ _ _ _ _ _ _ (World.drew _)
    refine wpAnyIn_take (i := 0) (v := ?_) rfl rfl (by kernel_rfl) (by kernel_rfl) (by kernel_rfl) (fun _ _ _ h => h) ⟨Or.inl ⟨by rfl, by intro w; go_simp; try (with_reducible rfl)⟩, fun _ => rfl⟩ ?_
    refine wpAnyIn_take (i := 3) (v := ?_) rfl rfl (by kernel_rfl) (by kernel_rfl) (by kernel_rfl) (fun _ _ _ h => h) ⟨Or.inl ⟨by rfl, by intro w; go_simp; try (with_reducible rfl)⟩, fun _ => rfl⟩ ?_
    refine wpAnyIn_take (i := 5) (v := ?_) rfl rfl (by kernel_rfl) (by kernel_rfl) (by kernel_rfl) (fun _ _ _ h => h) ⟨Or.inl ⟨by rfl, by intro w; go_simp; try (with_reducible rfl)⟩, fun _ => rfl⟩ ?_
    refine wpAnyIn_ready (rs := [1, 2]) (by kernel_rfl) (by simp) ?_
    refine AllReadyIn.cons rfl (fun K hK => ?_) ?_
    · go_simp
      refine hK _ _ ?_
      clear hK K
      refine wpAnyIn_ready (rs := [2]) (by kernel_rfl) (by simp) ?_
      refine AllReadyIn.cons rfl (fun K hK => ?_) ?_
      · go_simp
        refine hK _ _ ?_
        clear hK K
        refine wpAnyIn_ready (rs := [4]) (by kernel_rfl) (by simp) ?_
        refine AllReadyIn.cons rfl (fun K hK => ?_) ?_
        · go_simp
          refine ⟨trivial, ?_⟩
          refine (callsIn_wide.2 (hval.out _ hB.drew r hx)).mono ?_
          rintro e w' ⟨rfl, hb'⟩
          have d51 := kcd hb' c51
          have e51 := kfd hb' c51 f51
          dsimp only
          refine hK _ _ ?_
          clear hK K
          refine wpAnyIn_ready (rs := [6]) (by kernel_rfl) (by simp) ?_
          refine AllReadyIn.cons rfl (fun K hK => ?_) ?_
          · go_simp
            refine hK _ _ ?_
            clear hK K
            refine wpAnyIn_ready (rs := [7]) (by kernel_rfl) (by simp) ?_
            refine AllReadyIn.cons rfl (fun K hK => ?_) ?_
            · go_simp
              refine hK _ _ ?_
              clear hK K
              refine wpAnyIn_ready (rs := [8]) (by kernel_rfl) (by simp) ?_
              refine AllReadyIn.cons rfl (fun K hK => ?_) ?_
              · go_simp
                refine hK _ _ ?_
                clear hK K
                refine wpAnyIn_ready (rs := [9]) (by kernel_rfl) (by simp) ?_
                refine AllReadyIn.cons rfl (fun K hK => ?_) ?_
                · go_simp
                  refine hK _ _ ?_
                  clear hK K
                  refine wpAnyIn_done (by kernel_rfl) ?_ _
                  rw [HV.out, ← HOS.out]
                  exact ⟨(kot hb').trans (KeepsOthers.setCell _ _ _), ((Below.refl _ W).drew.trans (hb'.mono hB.size)).setCell (p := ⟨w.heap.size + 1 + 1, 1, none⟩) (by simp; omega) _, HM.out.step hb', (hB.drew.trans (hb'.mono hB.size)).setCell (p := ⟨w.heap.size + 1 + 1, 1, none⟩) (by simp; omega) _⟩
                exact AllReadyIn.nil
              exact AllReadyIn.nil
            exact AllReadyIn.nil
          exact AllReadyIn.nil
        exact AllReadyIn.nil
      exact AllReadyIn.nil
    refine AllReadyIn.cons rfl (fun K hK => ?_) ?_
    · go_simp
      refine hK _ _ ?_
      clear hK K
      refine wpAnyIn_ready (rs := [1, 4]) (by kernel_rfl) (by simp) ?_
      refine AllReadyIn.cons rfl (fun K hK => ?_) ?_
      · go_simp
        refine hK _ _ ?_
        clear hK K
        refine wpAnyIn_ready (rs := [4]) (by kernel_rfl) (by simp) ?_
        refine AllReadyIn.cons rfl (fun K hK => ?_) ?_
        · go_simp
          refine ⟨trivial, ?_⟩
          refine (callsIn_wide.2 (hval.out _ hB.drew r hx)).mono ?_
          rintro e w' ⟨rfl, hb'⟩
          have d51 := kcd hb' c51
          have e51 := kfd hb' c51 f51
          dsimp only
          refine hK _ _ ?_
          clear hK K
          refine wpAnyIn_ready (rs := [6]) (by kernel_rfl) (by simp) ?_
          refine AllReadyIn.cons rfl (fun K hK => ?_) ?_
          · go_simp
            refine hK _ _ ?_
            clear hK K
            refine wpAnyIn_ready (rs := [7]) (by kernel_rfl) (by simp) ?_
            refine AllReadyIn.cons rfl (fun K hK => ?_) ?_
            · go_simp
              refine hK _ _ ?_
              clear hK K
              refine wpAnyIn_ready (rs := [8]) (by kernel_rfl) (by simp) ?_
              refine AllReadyIn.cons rfl (fun K hK => ?_) ?_
              · go_simp
                refine hK _ _ ?_
                clear hK K
                refine wpAnyIn_ready (rs := [9]) (by kernel_rfl) (by simp) ?_
                refine AllReadyIn.cons rfl (fun K hK => ?_) ?_
                · go_simp
                  refine hK _ _ ?_
                  clear hK K
                  refine wpAnyIn_done (by kernel_rfl) ?_ _
                  rw [HV.out, ← HOS.out]
                  exact ⟨(kot hb').trans (KeepsOthers.setCell _ _ _), ((Below.refl _ W).drew.trans (hb'.mono hB.size)).setCell (p := ⟨w.heap.size + 1 + 1, 1, none⟩) (by simp; omega) _, HM.out.step hb', (hB.drew.trans (hb'.mono hB.size)).setCell (p := ⟨w.heap.size + 1 + 1, 1, none⟩) (by simp; omega) _⟩
                exact AllReadyIn.nil
              exact AllReadyIn.nil
            exact AllReadyIn.nil
          exact AllReadyIn.nil
        exact AllReadyIn.nil
      refine AllReadyIn.cons rfl (fun K hK => ?_) ?_
      · go_simp
        refine ⟨trivial, ?_⟩
        refine (callsIn_wide.2 (hval.out _ hB.drew r hx)).mono ?_
        rintro e w' ⟨rfl, hb'⟩
        have d51 := kcd hb' c51
        have e51 := kfd hb' c51 f51
        dsimp only
        refine hK _ _ ?_
        clear hK K
        refine wpAnyIn_ready (rs := [1, 6]) (by kernel_rfl) (by simp) ?_
        refine AllReadyIn.cons rfl (fun K hK => ?_) ?_
        · go_simp
          refine hK _ _ ?_
          clear hK K
          refine wpAnyIn_ready (rs := [6]) (by kernel_rfl) (by simp) ?_
          refine AllReadyIn.cons rfl (fun K hK => ?_) ?_
          · go_simp
            refine hK _ _ ?_
            clear hK K
            refine wpAnyIn_ready (rs := [7]) (by kernel_rfl) (by simp) ?_
            refine AllReadyIn.cons rfl (fun K hK => ?_) ?_
            · go_simp
              refine hK _ _ ?_
              clear hK K
              refine wpAnyIn_ready (rs := [8]) (by kernel_rfl) (by simp) ?_
              refine AllReadyIn.cons rfl (fun K hK => ?_) ?_
              · go_simp
                refine hK _ _ ?_
                clear hK K
                refine wpAnyIn_ready (rs := [9]) (by kernel_rfl) (by simp) ?_
                refine AllReadyIn.cons rfl (fun K hK => ?_) ?_
                · go_simp
                  refine hK _ _ ?_
                  clear hK K
                  refine wpAnyIn_done (by kernel_rfl) ?_ _
                  rw [HV.out, ← HOS.out]
                  exact ⟨(kot hb').trans (KeepsOthers.setCell _ _ _), ((Below.refl _ W).drew.trans (hb'.mono hB.size)).setCell (p := ⟨w.heap.size + 1 + 1, 1, none⟩) (by simp; omega) _, HM.out.step hb', (hB.drew.trans (hb'.mono hB.size)).setCell (p := ⟨w.heap.size + 1 + 1, 1, none⟩) (by simp; omega) _⟩
                exact AllReadyIn.nil
              exact AllReadyIn.nil
            exact AllReadyIn.nil
          exact AllReadyIn.nil
        refine AllReadyIn.cons rfl (fun K hK => ?_) ?_
        · go_simp
          refine hK _ _ ?_
          clear hK K
          refine wpAnyIn_ready (rs := [1]) (by kernel_rfl) (by simp) ?_
          refine AllReadyIn.cons rfl (fun K hK => ?_) ?_
          · go_simp
            refine hK _ _ ?_
            clear hK K
            refine wpAnyIn_ready (rs := [7]) (by kernel_rfl) (by simp) ?_
            refine AllReadyIn.cons rfl (fun K hK => ?_) ?_
            · go_simp
              refine hK _ _ ?_
              clear hK K
              refine wpAnyIn_ready (rs := [8]) (by kernel_rfl) (by simp) ?_
              refine AllReadyIn.cons rfl (fun K hK => ?_) ?_
              · go_simp
                refine hK _ _ ?_
                clear hK K
                refine wpAnyIn_ready (rs := [9]) (by kernel_rfl) (by simp) ?_
                refine AllReadyIn.cons rfl (fun K hK => ?_) ?_
                · go_simp
                  refine hK _ _ ?_
                  clear hK K
                  refine wpAnyIn_done (by kernel_rfl) ?_ _
                  rw [HV.out, ← HOS.out]
                  exact ⟨(kot hb').trans (KeepsOthers.setCell _ _ _), ((Below.refl _ W).drew.trans (hb'.mono hB.size)).setCell (p := ⟨w.heap.size + 1 + 1, 1, none⟩) (by simp; omega) _, HM.out.step hb', (hB.drew.trans (hb'.mono hB.size)).setCell (p := ⟨w.heap.size + 1 + 1, 1, none⟩) (by simp; omega) _⟩
                exact AllReadyIn.nil
              exact AllReadyIn.nil
            exact AllReadyIn.nil
          exact AllReadyIn.nil
        exact AllReadyIn.nil
      exact AllReadyIn.nil
    exact AllReadyIn.nil
  case done =>
    clear c3 c40 c41 c50 c51 cR f40 f41 f51
    rintro D ys W hD rfl ⟨hM, hB⟩ hK
    have c40 := hM.c40
    have c41 := hM.c41
    have c50 := hM.c50
    have c51 := hM.c51
    have f40 := hM.f40
    have f41 := hM.f41
    clear hM
    gi_wp2
    have hK2 := ((KeepsOthers.setCell W ⟨w.heap.size + 1, 0, none⟩ (.int .i64 m)).trans (KeepsOthers.setCell _ ⟨w.heap.size + 1, 1, none⟩ (.int .i64 (orBits v (upto hR0 R) : Int)))).same D _ hK rfl
    have hB2 := (hB.setCell (p := ⟨w.heap.size + 1, 0, none⟩) (by simp) (.int .i64 m)).setCell (p := ⟨w.heap.size + 1, 1, none⟩) (by simp) (.int .i64 (orBits v (upto hR0 R) : Int))
    have e0 : ((W.setCell ⟨w.heap.size + 1, 0, none⟩ (.int .i64 m)).setCell ⟨w.heap.size + 1, 1, none⟩ (.int .i64 (orBits v (upto hR0 R) : Int))).cell? ⟨w.heap.size + 1, 0, none⟩ = some (.int .i64 m) := by simp [go_sem, c40]
    have e1 : ((W.setCell ⟨w.heap.size + 1, 0, none⟩ (.int .i64 m)).setCell ⟨w.heap.size + 1, 1, none⟩ (.int .i64 (orBits v (upto hR0 R) : Int))).cell? ⟨w.heap.size + 1, 1, none⟩ = some (.int .i64 (orBits v (upto hR0 R) : Int)) := by simp [go_sem, c41]
    generalize (W.setCell ⟨w.heap.size + 1, 0, none⟩ (.int .i64 m)).setCell ⟨w.heap.size + 1, 1, none⟩ (.int .i64 (orBits v (upto hR0 R) : Int)) = W2 at hK2 hB2 e0 e1 ⊢
    refine ⟨by simp, .inl ⟨_, _, rfl, run_takeDeferred hK2, ?_⟩⟩
    have g0 := cell_kept e0 (grownBy_putObj' W2 D (.deferred none)) (fun r e => by cases e; exact ⟨_, hK2, rfl⟩)
    have g1 := cell_kept e1 (grownBy_putObj' W2 D (.deferred none)) (fun r e => by cases e; exact ⟨_, hK2, rfl⟩)
    exact ⟨.agg #[.int .i64 m, .int .i64 (orBits v (upto hR0 R) : Int)], by simp [results, Try.results53, go_sem, g0, g1], rfl, hB2.trans (belowK_b (w := w) (Nat.le_refl _) W2 D _ _ (by omega) hK2 rfl rfl)⟩
  case stop =>
    rintro D c pre W _ _ h _
    exact h.elim
end Go.Proofs.Ytcolaggkeekgoaa
