/-
  The texts CC6, CE2, CE4, H9, FCentraliserOf in one.
-/
import Derived.Test.YtdgpjpcdifpllaaMPCentraliserOf7
import Derived.BigQuiet

/- CC6:
  columnTablesOf of the program. -/
namespace Go.Proofs.Ytdgpjpcdifpllaa
open Go.RowKit Go.Shelf
attribute [local go_sem] Oper.semAt_some
set_option linter.unusedVariables false
set_option linter.unusedSimpArgs false

theorem fok_c {p : Int × Int} (h : isF p.1 p.2 = true) : ∃ m x R : Nat, p.1 = (m : Int) ∧ p.2 = (x : Int) ∧ m ≤ 4 ∧ FOk (m : Int) x R := by
  obtain ⟨x, R, e, ok⟩ := fok h
  refine ⟨p.1.toNat, x, R, ?_, e, ?_, ?_⟩
  · have := ok.h0; omega
  · have := ok.h4; omega
  · rw [Int.toNat_of_nonneg ok.h0]; exact ok
/-- Where the lines of the first k members end, for each k' ≤ k. -/
def endsK (xs : List (Int × Int)) (P Q k : Nat) : List Int := (List.range (k + 1)).map fun j => ((numK xs P Q j).length : Int)
theorem endsK_succ (xs : List (Int × Int)) (P Q k : Nat) : endsK xs P Q (k + 1) = endsK xs P Q k ++ [((numK xs P Q (k + 1)).length : Int)] := by simp [endsK, List.range_succ]
theorem endsK_len (xs : List (Int × Int)) (P Q k : Nat) : (endsK xs P Q k).length = k + 1 := by simp [endsK]
/-- The memory of the first loop: the box NB of the numbers, the list of ends, the marks. -/
structure CT (w : World) (NB : Nat) (xs : List (Int × Int)) (P Q k : Nat) (s6 : Value) (Ds : List Nat) (wr : World) : Prop where
  box : ∃ v, Boxed wr NB 55 v ∧ Owns wr (NB + 2) v (numK xs P Q k)
  ends : wr.ownsRow (NB + 1) 3 1 s6 (k + 1) (ints (endsK xs P Q k))
  pw : Ds.Pairwise (· ≠ ·)
  marks : ∀ D ∈ Ds, NB ≤ D ∧ wr.heap[D]? = some (.deferred (some []))
  below : Below w.heap.size w wr
  size : NB + 2 ≤ wr.heap.size
theorem infoInt : (Try.prog.info? 3).map (fun i => (i.zero, i.size, i.bytes)) = some (some (.int .i64 0), 1, 8) := by kernel_rfl
theorem infoI64 : (Try.prog.info? 2).map (fun i => (i.zero, i.size, i.bytes)) = some (some (.int .i64 0), 1, 8) := by kernel_rfl
theorem endsK_at (xs : List (Int × Int)) (P Q : Nat) {k j : Nat} (h : j ≤ k) : (ints (endsK xs P Q k))[j]? = some (.int .i64 ((numK xs P Q j).length : Int)) := by
  unfold endsK ints
  rw [List.getElem?_map, List.getElem?_map, List.getElem?_range (by omega)]
  rfl
theorem wp_normal {P : Program} {c : Code} {Q : Exit → Act → World → Prop} {a : Act} {w : World} (h : Code.wp P c (fun e a w => e = .normal ∧ Q .normal a w) a w) : Code.wp P c Q a w := wp_mono h (by rintro e a w ⟨rfl, h⟩; exact h)
theorem step_append_ct {P : Program} (w : World) {ops : Array Oper} {o : Oper} {a : Act} {K : Act → World → Prop} {Q : Exit → Act → World → Prop} {E : Prop}
    (hg : o.guard = none) (s x : Operand) (t : TypeId) (hop : o.op = Op.call { callee := Callee.builtin Builtin.append, args := #[s, x], argTypes := #[t, t] })
    (base : Nat) (e : TypeId) (i : TypeInfo) (z : Value) (size bytes : Nat) (h1 : P.underlying t = some (.slice e)) (h2 : P.info? e = some i) (h3 : i.zero = some z) (h4 : i.size = size) (h5 : i.bytes = bytes) (h6 : z.cells.size = size) (h7 : 0 < size)
    (v : Value) (k : Nat) (xs : List Value) (hs : a.eval s = v) (hown : w.ownsRow base e size v k xs) (ad : Addr) (m c : Nat) (news : List Value) (hx : a.eval x = .slice (some ad) m c) (hn : news.length = m * size)
    (hc : ∀ j u, news[j]? = some u → w.cell? (ad.add j) = some u) (h1c : ∀ u ∈ news, u.oneCell' = true) (b1 : k + m ≤ maxLen) (b2 : (k + m) * bytes ≤ 140737488355328) (b3 : base ≤ w.heap.size)
    (hK : ∀ v' w', w'.ownsRow base e size v' (k + m) (xs ++ news) → w.grownBy w' v.ownBlock → K (a.put o.dst v') w') :
    if Region.wanted o (yielded ops a.tmps) = true then Oper.wp P o a w K Q else E := by
  rw [if_pos (by simp [Region.wanted, hg])]
  obtain ⟨v', w', hrun, r1, r2, _⟩ := run_append_own (P := P) w base t o.type e i z size bytes h1 h2 h3 h4 h5 h6 h7 v k xs hown ad m c news hn hc h1c b1 b2 b3
  unfold Oper.wp
  simp [execOp, hop, resolve, invoke, builtin, hs, hx, hrun, Result.andThen]
  exact hK _ _ r1 r2
theorem cell_three_newC (W : World) (a b c : Value) (t : TypeId) : ∀ (j : Nat) (u : Value), [a, b, c][j]? = some u → (W.alloc (.cells #[a, b, c] t)).cell? ((⟨W.heap.size, 0, none⟩ : Addr).add j) = some u := by
  intro j u h
  match j, h with
  | 0, h => simp at h; subst h; simp [go_sem, Addr.add]
  | 1, h => simp at h; subst h; simp [go_sem, Addr.add]
  | 2, h => simp at h; subst h; simp [go_sem, Addr.add]
theorem cell_three_newD (W : World) {N : Nat} (hN : N = W.heap.size) (a b c : Value) (t : TypeId) : ∀ (j : Nat) (u : Value), [a, b, c][j]? = some u → (W.alloc (.cells #[a, b, c] t)).cell? ((⟨N, 0, none⟩ : Addr).add j) = some u := by
  subst hN
  exact cell_three_newC W a b c t
theorem one_cell_threeC (x y : Int) (a : Option Addr) (l c : Nat) : ∀ u ∈ [Value.int .i64 x, Value.int .i64 y, Value.slice a l c], u.oneCell' = true := by
  intro u hu
  simp at hu
  rcases hu with rfl | rfl | rfl <;> rfl
/-- A table's cells, and those of the first n. -/
def tcell (xs : List (Int × Int)) (P Q G j : Nat) : List Value := [.int .i64 (fget xs j).1, .int .i64 (fget xs j).2, .slice (some ⟨G, (numK xs P Q j).length, none⟩) (flatC (lnsK xs P Q j)).length (flatC (lnsK xs P Q j)).length]
def tclC (xs : List (Int × Int)) (P Q G n : Nat) : List Value := (List.range n).flatMap (tcell xs P Q G)
def blkC (a : Option Addr) : Nat := (a.getD ⟨0, 0, none⟩).block
theorem tclC_succ (xs : List (Int × Int)) (P Q G n : Nat) : tclC xs P Q G (n + 1) = tclC xs P Q G n ++ tcell xs P Q G n := by simp [tclC, List.range_succ]
theorem tclC_len (xs : List (Int × Int)) (P Q G : Nat) : ∀ n, (tclC xs P Q G n).length = n * 3
  | 0 => by simp [tclC]
  | n + 1 => by rw [tclC_succ, List.length_append, tclC_len xs P Q G n]; simp [tcell]; omega
theorem tclC_at (xs : List (Int × Int)) (P Q G : Nat) {j i : Nat} (hi : i < 3) : ∀ n, j < n → (tclC xs P Q G n)[j * 3 + i]? = (tcell xs P Q G j)[i]?
  | 0, h => by omega
  | n + 1, h => by
    rw [tclC_succ]
    by_cases hj : j < n
    · rw [List.getElem?_append_left (by rw [tclC_len]; omega)]
      exact tclC_at xs P Q G hi n hj
    · obtain rfl : j = n := by omega
      rw [List.getElem?_append_right (by rw [tclC_len]; omega), tclC_len, Nat.add_sub_cancel_left]
/-- Where the lines of each member stand. -/
def svC (xs : List (Int × Int)) (P Q G : Nat) : Nat → Option Addr × Nat × Nat := fun j => (some ⟨G, (numK xs P Q j).length, none⟩, (flatC (lnsK xs P Q j)).length, (flatC (lnsK xs P Q j)).length)
theorem tcells_of {W : World} {base : Nat} {aT : Option Addr} {L capT : Nat} {xs : List (Int × Int)} {P Q G : Nat} (h : W.ownsRow base 115 3 (.slice aT L capT) L (tclC xs P Q G L)) : CellsT aT L xs (svC xs P Q G) W := by
  intro j hj
  have h' := h
  obtain ⟨_, ⟨e, h0⟩ | ⟨g, c, cur, e, _⟩⟩ := h
  · omega
  · cases e
    refine ⟨g, rfl, ?_, ?_, ?_⟩
    · have := World.ownsRow.cellAt h' (j * 3) (by omega)
      rw [this, show j * 3 = j * 3 + 0 from rfl, tclC_at xs P Q G (by omega) L hj]; rfl
    · rw [World.ownsRow.cellAt h' (j * 3 + 1) (by omega), tclC_at xs P Q G (by omega) L hj]; rfl
    · rw [World.ownsRow.cellAt h' (j * 3 + 2) (by omega), tclC_at xs P Q G (by omega) L hj]; rfl
theorem infoCT : (Try.prog.info? 115).map (fun i => (i.zero, i.size, i.bytes)) = some (some (.agg #[.int .i64 0, .int .i64 0, .slice none 0 0]), 3, 40) := by kernel_rfl
theorem cell_one_new (W : World) (a : Value) (t : TypeId) : ∀ (j : Nat) (u : Value), [a][j]? = some u → (W.alloc (.cells #[a] t)).cell? ((⟨W.heap.size, 0, none⟩ : Addr).add j) = some u := by
  intro j u h
  match j, h with
  | 0, h => simp at h; subst h; simp [go_sem, Addr.add]
theorem one_ints (ys : List Int) : ∀ u ∈ ints ys, u.oneCell' = true := by
  intro u hu
  obtain ⟨y, _, rfl⟩ := List.mem_map.1 hu
  rfl

set_option maxRecDepth 100000 in
set_option maxHeartbeats 8000000 in
theorem columnTablesOf_any {xs : List (Int × Int)} {L : Nat} (hL : xs.length = L) (hl : L ≤ 8) (hx : Hid (∀ i, i < L → isF (fget xs i).1 (fget xs i).2 = true)) {n : Int} {P Q : Nat} (hn : n = (P : Int)) (hP0 : 0 ≤ (P : Int)) (hP4 : (P : Int) ≤ 4) (Q0 : 0 < Q) (Q16 : Q ≤ 16) (hQr : Hid (rowsN (P : Int) = (Q : Int))) (hQ : Hid (Q = 2 ^ P)) {a : Option Addr} {cap : Nat} (w : World) (hC : Hid (CellsV a L xs w)) :
    Calls Try.prog 89 #[.slice a L cap, .int .i64 n] w fun e w' => ∃ aT capT sv, e = .returned (.slice aT L capT) ∧ CellsT aT L xs sv w' ∧ (∀ j, j < L → ∃ U o, (sv j).1 = some ⟨U, o, none⟩ ∧ (sv j).2.1 = (flatC (lnsK xs P Q j)).length ∧ (sv j).2.2 = (flatC (lnsK xs P Q j)).length ∧ LnC U o (fget xs j).1.toNat (lnsK xs P Q j) w') ∧ Below w.heap.size w w' := by
  subst hn
  obtain ⟨i0, hi, hz0, hz1, hz2⟩ := info_parts infoI64
  obtain ⟨i1, hi1, hz3, hz4, hz5⟩ := info_parts infoInt
  obtain ⟨i2, hi2, hz6, hz7, hz8⟩ := info_parts infoCT
  have hmx : Try.prog.follows .mixedOrders = true := by kernel_rfl
  have NKL := Lib.hid (numK_len (xs := xs) (L := L) P Q16 fun k hk => by obtain ⟨m, x, R, e1, _, m4, _⟩ := fok_c (hx.out k hk); rw [e1]; omega)
  refine (callsIn_wide (n := 3)).1 ?_
  refine callsIn_of_wp_marks Try.func89 rfl trivial ?_ rfl
  simp only [Try.ntmps89, List.size_toArray, List.length_cons, List.length_nil, Nat.reduceAdd, Nat.reduceSub, Array.replicate_succ, Array.replicate_zero, List.push_toArray, List.append_toArray, List.nil_append, List.cons_append]
  gi_wp2
  obtain ⟨W0, hW0⟩ : ∃ W0, (w.alloc (.cells #[.slice none 0 0] 55)).alloc (.cells #[.int .i64 0] 3) = W0 := ⟨_, rfl⟩
  have C0 : Hid (CT w w.heap.size xs P Q 0 (.slice (some ⟨w.heap.size + 1, 0, none⟩) 1 1) [] W0) := Lib.hid (by
    rw [← hW0]
    exact ⟨⟨_, (Boxed.new _ _ _).alloc _, World.ownsRow_nil _ _ _ _⟩, by
      have := World.ownsRow_lit (w.alloc (.cells #[.slice none 0 0] 55)) #[.int .i64 0] 1 (base := w.heap.size + 1) (by simp) (by decide) rfl (e := 3) (size := 1)
      simpa [endsK, numK, ints] using this, List.Pairwise.nil, fun D h => by simp at h, balloc (bnew _ _) _, by simp⟩)
  try rw [hW0]
  clear hW0
  refine wpIn_loop (fun a' wr => ∃ (k : Nat) (s6 : Value) (Ds : List Nat) (u8 u9 u10 u20 u21 u22 u23 u24 u25 u26 u27 u28 u29 u30 u31 u32 u33 u34 u35 u36 u37 u38 u39 : Value), a' = { tmps := #[.slice a L cap, .int .i64 P, undef, undef, .slice none 0 0, .pointer (some ⟨w.heap.size, 0, none⟩), s6, undef, u8, u9, u10, undef, undef, undef, undef, undef, .slice (some ⟨w.heap.size + 1, 0, none⟩) 1 1, .slice a L cap, .int .i64 L, .int .i64 k, u20, u21, u22, u23, u24, u25, u26, u27, u28, u29, u30, u31, u32, u33, u34, u35, u36, u37, u38, u39, undef, undef, undef, undef, undef, undef, undef, undef, undef, undef, undef, undef, undef, undef, undef, undef, undef, undef, undef, undef, undef, undef, undef, undef, undef, undef, undef, undef], defers := Ds.map mkD } ∧ k ≤ L ∧ Hid (CT w w.heap.size xs P Q k s6 Ds wr)) (fun a' _ => L - (intOf (a'.tmps.getD 19 undef)).toNat) ⟨0, _, [], _, _, _, _, _, _, _, _, _, _, _, _, _, _, _, _, _, _, _, _, _, _, _, rfl, Nat.zero_le _, C0⟩ ?_
  rintro _ wr ⟨k, s6, Ds, u8, u9, u10, u20, u21, u22, u23, u24, u25, u26, u27, u28, u29, u30, u31, u32, u33, u34, u35, u36, u37, u38, u39, rfl, hk, HC⟩
  by_cases hkl : k < L
  · obtain ⟨g, rfl, e0', e1'⟩ := hC.out k hkl
    obtain ⟨⟨v0, hv0, ho0⟩, he0, hpw, hmk, hB, hsz⟩ := HC.out
    have e0 := kc hB e0'
    have e1 := kc hB e1'
    obtain ⟨m, x, R, em, ex, m4, ok⟩ := fok_c (hx.out k hkl)
    rw [em] at e0
    rw [ex] at e1
    have HLS : Hid (lnsK xs P Q k = linesL x P Q m) := Lib.hid (by unfold lnsK; rw [em, ex]; simp)
    have hnl := NKL.out k (by omega)
    have HV0 := Lib.hid hv0
    have HO0 := Lib.hid ho0
    have HE0 := Lib.hid he0
    have HPW := Lib.hid hpw
    have HMK := Lib.hid hmk
    have hm5 : Q ^ m ≤ 65536 := pow_bound Q16 m4
    have HQM := Lib.hid (fun q (hq : q ≤ 65536) => mul_bound hq m4)
    clear hv0 ho0 he0 hpw hmk e0' e1' em ex
    gi_wp2_with (refine ⟨trivial, ?_⟩; gi_at_call 148; refine (callsIn_wide.2 (rowLists_any _ _ _ _)).mono ?_; rintro e w' ⟨rfl, rfl⟩)
    obtain ⟨W1, hW1⟩ : ∃ W1, ((wr.alloc (.cells #[.int .i64 m, .int .i64 x] 23)).alloc (.cells #[.int .i64 m, .int .i64 x] 23)).alloc (.cells #[.int .i64 P] 2) = W1 := ⟨_, rfl⟩
    have s1 : W1.heap.size = wr.heap.size + 3 := by rw [← hW1]; simp
    have hB1 : Below wr.heap.size wr W1 := by rw [← hW1]; exact balloc (balloc (bnew _ _) _) _
    have f0 : W1.cell? ⟨wr.heap.size + 1, 0, none⟩ = some (.int .i64 (m : Int)) := by rw [← hW1]; simp [go_sem]
    have f1 : W1.cell? ⟨wr.heap.size + 1, 1, none⟩ = some (.int .i64 (x : Int)) := by rw [← hW1]; simp [go_sem]
    have r0 : W1.cell? ⟨wr.heap.size + 1 + 1, 0, none⟩ = some (.int .i64 (P : Int)) := by rw [← hW1]; simp [go_sem]
    try rw [hW1]
    clear hW1
    have lNB := HV0.out.lt
    have lE : ∀ b, s6.ownBlock = some b → b < wr.heap.size := fun b hb => (World.ownsRow.lt HE0.out b hb).2
    refine wpIn_rangeFunc_XB (α := OutV) (Vis := Vis m) rfl (by omega) (T := fun H k => (W1.heap.size + 2 ≤ k ∧ k < H) ∨ k = wr.heap.size + 1 + 1) (gf := 191) (lb := #[.pointer (some ⟨wr.heap.size + 1, 0, none⟩), .pointer (some ⟨wr.heap.size + 1 + 1, 0, none⟩)]) rfl trivial (enters_of Try.func191 (by kernel_rfl) rfl) (by intro H; omega)
      (rowLists_seqR ok m4 hP0 hP4 Q0 Q16 hQr hQ.out (wr.heap.size + 1) (wr.heap.size + 1 + 1) (W1.heap.size + 2) (3 - 1) W1 f0 f1 r0)
      (fun z W W' row h hg hr => vis_kept m _ z W W' row h hg hr)
      (Below.refl _ _) (fun _ => rfl)
      (fun H pre W => (∃ v, (Boxed W w.heap.size 55 v ∧ Owns W (w.heap.size + 2) v (numK xs P Q k ++ flatC (pre.map keyV))) ∧ ∀ b, v.ownBlock = some b → b < wr.heap.size ∨ H ≤ b) ∧ ((flatC (pre.map keyV)).length = pre.length * (m + 1) ∧ (W.ownsRow (w.heap.size + 1) 3 1 s6 (k + 1) (ints (endsK xs P Q k)) ∧ ((∀ D ∈ Ds, W.heap[D]? = some (.deferred (some []))) ∧ Below w.heap.size w W))))
      (fun _ _ _ _ => False)
      (fun H => FirmB.and
        (fun pre A B row ⟨v, ⟨hv, ho⟩, hb⟩ hg hr => ⟨v, ⟨hv.kept hg (fun e => by have := (hr _ e.symm).1; omega), World.ownsRow.kept ho hg (by
          cases hvb : v.ownBlock with
          | none => exact .inl rfl
          | some b => exact .inr fun e => by have h1 := hr b e.symm; rcases hb b hvb with h2 | h2 <;> omega)⟩, hb⟩)
        (FirmB.and (Firm.toB (firm_pure _ (fun (pre : List OutV) => (flatC (pre.map keyV)).length = pre.length * (m + 1))) H) (FirmB.and
          (fun pre A B row ho hg hr => World.ownsRow.kept ho hg (by
            cases hvb : s6.ownBlock with
            | none => exact .inl rfl
            | some b => exact .inr fun e => by have h1 := hr b e.symm; have h2 := lE b hvb; omega))
          (FirmB.and (fun pre A B row hd hg hr D hD => (hg.block D (Array.getElem?_eq_some_iff.1 (hd D hD)).1 (fun e => by have h1 := hr D e.symm; have h2 := (Array.getElem?_eq_some_iff.1 (HMK.out D hD).2).1; omega)).trans (hd D hD))
            (Firm.toB (firm_below (by omega) (Nat.le_refl _)) H)))))
      (fun _ _ _ _ _ _ h _ _ => h)
      (fun H hH => ⟨⟨v0, ⟨(hB1.block _ HV0.out.lt).trans HV0.out, by simpa [flatC] using HO0.out.below hB1⟩, fun b hb => .inl (World.ownsRow.lt HO0.out b hb).2⟩, by simp [flatC], owns_belowF HE0.out hB1, fun D hD => (hB1.block D (Array.getElem?_eq_some_iff.1 (HMK.out D hD).2).1).trans (HMK.out D hD).2, bthen hB hB1⟩)
      (fun z => { tmps := #[.slice (some ⟨g, 0, none⟩) L cap, .int .i64 P, undef, undef, .slice none 0 0, .pointer (some ⟨w.heap.size, 0, none⟩), s6, undef, .pointer (some ⟨wr.heap.size, 0, none⟩), z.1, .int .i64 (z.2.2.1 : Int), undef, undef, undef, undef, undef, .slice (some ⟨w.heap.size + 1, 0, none⟩) 1 1, .slice (some ⟨g, 0, none⟩) L cap, .int .i64 L, .int .i64 k, .bool true, .pointer (some ⟨g, k * 2, none⟩), .agg #[.int .i64 m, .int .i64 x], .agg #[.int .i64 m, .int .i64 x], .int .i64 P, .func (.func 191) #[] #[.pointer (some ⟨wr.heap.size + 1, 0, none⟩), .pointer (some ⟨wr.heap.size + 1 + 1, 0, none⟩)], z.1, .int .i64 (z.2.2.1 : Int), u28, u29, u30, u31, u32, u33, u34, u35, u36, u37, u38, u39, undef, undef, undef, undef, undef, undef, undef, undef, undef, undef, undef, undef, undef, undef, undef, undef, undef, undef, undef, undef, undef, undef, undef, undef, undef, undef, undef, undef], defers := [] }) ?assign ?body ?done ?stop
    case assign =>
      intro l z W K hK
      unfold encSV
      gi_wp2
      exact hK
    case body =>
      clear f0 f1 r0 e0 e1
      rintro l H pre z W ⟨⟨v, ⟨hv, ho⟩, hvb⟩, hfl, he, hd, hBW⟩ hH1 hH2 hlen ⟨hown, hzl, hzb⟩
      have hbl := HQM.out pre.length (by omega)
      have hplus : pre.length * (m + 1) + (m + 1) ≤ 327680 := by have := HQM.out (pre.length + 1) (by omega); rwa [Nat.add_mul, Nat.one_mul] at this
      have hKEY : keyV z = (z.2.1, z.2.2.1) := rfl
      have HFN := Lib.hid (show numK xs P Q k ++ flatC ((pre ++ [z]).map keyV) = numK xs P Q k ++ flatC (pre.map keyV) ++ nI z.2.1 ++ [((z.2.2.1 : Nat) : Int)] by rw [List.map_append, List.map_cons, List.map_nil, flatC_snoc, hKEY, lineC, List.append_assoc, List.append_assoc])
      have HFL2 := Lib.hid (show (flatC ((pre ++ [z]).map keyV)).length = (pre ++ [z]).length * (m + 1) by rw [List.map_append, List.map_cons, List.map_nil, flatC_snoc, hKEY, List.length_append, hfl, lineC_len, hzl, List.length_append, Nat.add_mul]; simp)
      have hln : (numK xs P Q k ++ flatC (pre.map keyV)).length ≤ 2700000 := by rw [List.length_append, hfl]; omega
      have hnz : (nI z.2.1).length ≤ 4 := by rw [nI_length]; omega
      have hsW := hBW.size
      have ho0 : World.ownsRow _ _ _ _ _ _ _ := ho
      have hown0 : World.ownsRow _ _ _ _ _ _ _ := hown
      generalize numK xs P Q k ++ flatC (pre.map keyV) = nu at ho ho0 hln HFN
      have HV := Lib.hid hv
      have HO := Lib.hid ho
      have HE := Lib.hid he
      have HD := Lib.hid hd
      have d0 := hv.cell
      have lNW := hv.lt
      clear hv ho he hd hown hfl hzb
      have hne1 : ∀ b, v.ownBlock = some b → w.heap.size + 2 ≤ b ∧ b < W.heap.size := fun b hb => World.ownsRow.lt ho0 b hb
      gi_wp2_with (gi_at_builtin; first
        | (refine wpListIn_append_own_at _ rfl _ _ 55 rfl (w.heap.size + 2) 2 i0 (.int .i64 0) 1 8 Try.underlying55 hi hz0 hz1 hz2 rfl (by decide) _ _ _ rfl (ho1.alloc _) ⟨w1.heap.size, 0, none⟩ 1 1 [.int .i64 (z.2.2.1 : Int)] rfl rfl (cell_one_new _ _ _) (one_ints [(z.2.2.1 : Int)]) (by unfold maxLen; omega) (by omega) (by simp; omega) ?_; intro v2 w2 ho2 hg2 _ hb2; obtain ⟨g2, cap2, rfl⟩ := ownsRow_succ ho2; have HG2 := Lib.hid hg2; have HX2 := Lib.hid ((HX1.out.alloc (.cells #[.int .i64 (z.2.2.1 : Int)] 2)).kept hg2 (fun e => by have := (World.ownsRow.lt ho1 _ e.symm).1; omega)); have d2 := HX2.out.cell; have z2 := HX2.out.frozen; clear hg2)
        | (refine wpListIn_append_src _ rfl _ _ 55 rfl (w.heap.size + 2) 2 i0 (.int .i64 0) 8 Try.underlying55 hi hz0 hz1 hz2 rfl _ _ _ rfl ho0 (W1.heap.size + 2) _ _ _ rfl hown0 (one_ints _) (by unfold maxLen; omega) (by omega) (by omega) ?_; intro v1 w1 ho1 hg1 hb1; have HG1 := Lib.hid hg1; have hs1 := hg1.size; have HX1 := Lib.hid (HV.out.kept hg1 (fun e => by have := (hne1 _ e.symm).1; omega)); clear hg1))
      have hS2 : w.heap.size + 2 ≤ w1.heap.size := by have := HX1.out.lt; omega
      have hnT : ∀ r, v.ownBlock = some r → ¬ ((W1.heap.size + 2 ≤ r ∧ r < H) ∨ r = wr.heap.size + 1 + 1) := fun r hr h => by rcases hvb r hr with h2 | h2 <;> omega
      have hI64 : ∀ {base : Nat} {u : Value} {q : Nat} {ys : List Value} {V : World}, V.ownsRow base 2 1 u q ys → ∀ r, u.ownBlock = some r → ¬ Other V.heap[r]? ∧ ∃ ob, V.heap[r]? = some ob ∧ ob.isCells = true := by
        intro base u q ys V hu r hr
        obtain ⟨_, cur, e⟩ := row_obj hu hr
        exact ⟨fun ⟨o', e1, e2⟩ => by rw [e] at e1; exact e2 cur (0, 0) (Option.some.inj e1).symm, _, e, rfl⟩
      have hb1' : ∀ r, v1.ownBlock = some r → r < wr.heap.size ∨ H ≤ r := fun r hr => by
        rcases hb1 with h | h
        · exact hvb r (h ▸ hr)
        · rw [h] at hr; cases hr; exact .inr (by omega)
      have hnT1 : ∀ r, v1.ownBlock = some r → ¬ ((W1.heap.size + 2 ≤ r ∧ r < H) ∨ r = wr.heap.size + 1 + 1) := fun r hr h => by rcases hb1' r hr with h2 | h2 <;> omega
      have ka : KeepsOthers W (w2.setCell ⟨w.heap.size, 0, none⟩ (.slice (some ⟨g2, 0, none⟩) (nu.length + (nI z.2.1).length + 1) cap2)) :=
        (((KeepsOthers.of_grownBy HG1.out fun j o hj ho => by obtain ⟨_, o', e, h⟩ := hI64 ho0 j hj; rw [e] at ho; cases ho; exact h).trans (KeepsOthers.alloc _ _)).trans
          (KeepsOthers.of_grownBy HG2.out fun j o hj ho => by obtain ⟨_, o', e, h⟩ := hI64 (ho1.alloc (.cells #[.int .i64 (z.2.2.1 : Int)] 2)) j hj; rw [e] at ho; cases ho; exact h)).trans (KeepsOthers.setCell _ _ _)
      have kb : AboveI (W1.heap.size + 2) (fun k => (W1.heap.size + 2 ≤ k ∧ k < H) ∨ k = wr.heap.size + 1 + 1) W (w2.setCell ⟨w.heap.size, 0, none⟩ (.slice (some ⟨g2, 0, none⟩) (nu.length + (nI z.2.1).length + 1) cap2)) :=
        (((AboveI.grown HG1.out fun r hr => ⟨hnT r hr, .inr (hI64 ho0 r hr).1⟩).trans (AboveI.below (bnew _ _))).trans
          (AboveI.grown HG2.out fun r hr => ⟨hnT1 r hr, .inr (hI64 (ho1.alloc (.cells #[.int .i64 (z.2.2.1 : Int)] 2)) r hr).1⟩)).trans (AboveI.grown (grownSet _ _ _ _) fun r e => by cases e; exact ⟨by show ¬ ((_ ≤ w.heap.size ∧ _) ∨ w.heap.size = _); omega, .inl (by show w.heap.size < _; omega)⟩)
      have hE1 : World.ownsRow _ _ _ _ _ _ _ := World.ownsRow.kept HE.out HG1.out (rows_apart HE.out ho0 (by decide))
      have hE2 : World.ownsRow _ _ _ _ _ _ _ := World.ownsRow.kept (hE1.alloc (.cells #[.int .i64 (z.2.2.1 : Int)] 2)) HG2.out (rows_apart (hE1.alloc (.cells #[.int .i64 (z.2.2.1 : Int)] 2)) (ho1.alloc (.cells #[.int .i64 (z.2.2.1 : Int)] 2)) (by decide))
      refine ⟨⟨ka.from _, kb⟩, ⟨_, ⟨Boxed.set _ HX2.out, ?_⟩, ?_⟩, HFL2.out, ?_, fun D hD => ka.same D _ (HD.out D hD) rfl, ?_⟩
      · rw [HFN.out]
        unfold Owns
        have e : (nu ++ nI z.2.1 ++ [((z.2.2.1 : Nat) : Int)]).length = nu.length + (nI z.2.1).length + 1 := by simp only [List.length_append, List.length_cons, List.length_nil]
        rw [e]
        have ho3 := World.ownsRow.kept ho2 (grownSet w2 w.heap.size 0 (.slice (some ⟨g2, 0, none⟩) (nu.length + (nI z.2.1).length + 1) cap2)) (.inr fun e => by have := (World.ownsRow.lt ho2 _ e).1; omega)
        simpa only [ints, List.map_append, List.map_cons, List.map_nil] using ho3
      · intro b hb
        rcases hb2 with h | h
        · exact hb1' b (h ▸ hb)
        · rw [h] at hb; cases hb; exact .inr (by simp; omega)
      · exact World.ownsRow.kept hE2 (grownSet _ _ _ _) (.inr fun e => by have := (World.ownsRow.lt hE2 _ e).1; omega)
      · exact (((hBW.grown HG1.out hsW fun j e => by have := (hne1 j e).1; omega).alloc (by omega) _).grown HG2.out (by simp; omega) fun j e => by have := (World.ownsRow.lt ho1 j e).1; omega).setCell (p := ⟨w.heap.size, 0, none⟩) (Nat.le_refl _) _
    case done =>
      clear f0 f1 r0 e0 e1
      rintro D H ys W hD hD2 hH hys ⟨⟨v, ⟨hv, ho⟩, hvb⟩, hfl, he, hd, hBW⟩ hKd
      have hNU : numK xs P Q k ++ flatC (ys.map keyV) = numK xs P Q (k + 1) := by rw [hys, numK_succ, HLS.out]
      rw [hNU] at ho
      have hsW := hBW.size
      have ho0 : World.ownsRow _ _ _ _ _ _ _ := ho
      obtain ⟨av, cv, rfl⟩ := owns_len ho rfl
      have hln := NKL.out (k + 1) (by omega)
      have HEN := Lib.hid (endsK_succ xs P Q k)
      have HV := Lib.hid hv
      have HO := Lib.hid ho
      have d0 := hv.cell
      have lNW := hv.lt
      have hcD : ∀ E, W.heap[E]? = some (.deferred (some [])) → E < W.heap.size := fun E h => (Array.getElem?_eq_some_iff.1 h).1
      have HDN := Lib.hid (fun E (hE : E ∈ Ds) => (show D ≠ E from fun e => by have := (Array.getElem?_eq_some_iff.1 (HMK.out E hE).2).1; omega))
      have HKD := Lib.hid hKd
      have HD := Lib.hid hd
      have HLQ := Lib.hid (show (numK xs P Q (k + 1)).length ≤ 2700000 by omega)
      clear hv ho hd hfl hys hNU hvb hKd hln hnl
      generalize hq : (numK xs P Q (k + 1)).length = q at ho0 HV HO HEN d0 HLQ ⊢
      gi_wp2_with (gi_at_builtin; refine wpListIn_append_own_at _ rfl _ _ 189 rfl (w.heap.size + 1) 3 i1 (.int .i64 0) 1 8 Try.underlying189 hi1 hz3 hz4 hz5 rfl (by decide) _ _ _ rfl (he.alloc _) ⟨W.heap.size, 0, none⟩ 1 1 [.int .i64 (q : Int)] rfl rfl (cell_one_new _ _ _) (one_ints [(q : Int)]) (by unfold maxLen; omega) (by omega) (by simp; omega) ?_; intro s7 w2 he2 hg2 _ hb2; have HG2 := Lib.hid hg2; have HE2a := Lib.hid (he.alloc (.cells #[.int .i64 (q : Int)] 3)); clear hg2)
      have hE0 := HE2a.out
      have kk : KeepsOthers W w2 := (KeepsOthers.alloc W (.cells #[.int .i64 (q : Int)] 3)).trans (KeepsOthers.of_grownBy HG2.out fun j o hj ho => by
        obtain ⟨_, cur, e⟩ := row_obj hE0 hj
        rw [e] at ho
        cases ho
        rfl)
      refine ⟨⟨k + 1, s7, D :: Ds, _, _, _, _, _, _, _, _, _, _, _, _, _, _, _, _, _, _, _, _, _, _, _, rfl, by omega, Lib.hid ⟨⟨_, (HV.out.alloc _).kept HG2.out (fun e => by have := (World.ownsRow.lt he _ e.symm).1; omega), ?_⟩, ?_, List.pairwise_cons.2 ⟨HDN.out, HPW.out⟩, ?_, ?_, ?_⟩⟩, ?_⟩
      · unfold Owns
        rw [hq]
        exact World.ownsRow.kept (ho0.alloc (.cells #[.int .i64 (q : Int)] 3)) HG2.out (rows_apart (ho0.alloc (.cells #[.int .i64 (q : Int)] 3)) hE0 (by decide))
      · rw [HEN.out]
        simpa only [ints, List.map_append, List.map_cons, List.map_nil] using he2
      · intro E hE
        rcases List.mem_cons.1 hE with rfl | hE
        · exact ⟨by have := hB.size; omega, kk.same _ _ HKD.out rfl⟩
        · exact ⟨(HMK.out E hE).1, kk.same _ _ (HD.out E hE) rfl⟩
      · exact (balloc hBW _).grown HG2.out (by simp; omega) fun j e => by have := (World.ownsRow.lt he j e).1; omega
      · have h1 := kk.size; have h2 := hcD _ HKD.out
        omega
      · simp [intOf]
        omega
    case stop =>
      rintro D H c pre W hD hD2 hH _ h _
      exact h.elim
  · obtain rfl : L = k := by omega
    rename World => wo
    obtain ⟨⟨v0, hv0, ho0⟩, he0, hpw, hmk, hB, hsz⟩ := HC.out
    obtain ⟨gE, cE, rfl⟩ := ownsRow_succ he0
    obtain ⟨av, cv, rfl⟩ := owns_len ho0 rfl
    obtain ⟨q, hq⟩ : ∃ q, (numK xs P Q L).length = q := ⟨_, rfl⟩
    have hq8 : q ≤ 2700000 := by have := NKL.out L (Nat.le_refl _); omega
    have HO0 := Lib.hid ho0
    rw [hq] at hv0
    have HV0 := Lib.hid hv0
    have HE0 := Lib.hid he0
    have HMK := Lib.hid hmk
    have HPW := Lib.hid hpw
    have HQ := Lib.hid hq
    have lNB := hv0.lt
    have lE := (World.ownsRow.lt he0 gE rfl).2
    clear hv0 he0 hmk hpw ho0 hq HC
    gi_wp2
    gi_loopw [11, 42] (fun s' i' wq => ∃ j : Nat, j ≤ L ∧ i' = .int .i64 j ∧ Hid (wq.ownsRow wo.heap.size 115 3 s' j (tclC xs P Q (blkC av) j)) ∧ Below wo.heap.size wo wq) (fun _ i' _ => L - (intOf i').toNat)
    case atStart => exact ⟨0, Nat.zero_le _, rfl, Lib.hid (World.ownsRow_nil _ _ _ _), Below.refl _ _⟩
    case round =>
      obtain ⟨j, hj, rfl, HT, hN⟩ := hrel
      by_cases hjl : j < L
      · obtain ⟨g, rfl, e0', e1'⟩ := hC.out j hjl
        have hNB := bthen hB hN
        have e0 := kc hNB e0'
        have e1 := kc hNB e1'
        have x0' := World.ownsRow.cellAt HE0.out j (by omega)
        have x1' := World.ownsRow.cellAt HE0.out (j + 1) (by omega)
        rw [endsK_at xs P Q (show j ≤ L by omega)] at x0'
        rw [endsK_at xs P Q (show j + 1 ≤ L by omega)] at x1'
        have x0 := kc hN x0'
        have x1 := kc hN x1'
        have y0 := kc hN HV0.out.cell
        have HST := Lib.hid (tclC_succ xs P Q (blkC av) j)
        obtain ⟨tl, htl⟩ := numK_pre xs P Q (show j + 1 ≤ L by omega)
        have hst2 : (numK xs P Q (j + 1)).length = (numK xs P Q j).length + (flatC (lnsK xs P Q j)).length := by rw [numK_succ, List.length_append]
        have hst3 : (numK xs P Q (j + 1)).length ≤ q := by rw [← HQ.out, htl, List.length_append]; omega
        have hst4 : 0 < (flatC (lnsK xs P Q j)).length := by rw [lnsK_len]; exact Nat.mul_pos (Nat.pow_pos Q0) (Nat.succ_pos _)
        obtain ⟨G, hG⟩ : ∃ G, av = some ⟨G, 0, none⟩ := by
          obtain ⟨_, ⟨e, h0⟩ | ⟨G, c, cur, e, _⟩⟩ := HO0.out
          · have := HQ.out
            omega
          · cases e
            exact ⟨G, rfl⟩
        subst hG
        have hqc : q ≤ cv := by
          obtain ⟨_, ⟨e, h0⟩ | ⟨G', c, cur, e, _, _, hnc, _⟩⟩ := HO0.out
          · cases e
          · cases e
            rw [HQ.out] at hnc
            exact hnc
        unfold tcell at HST
        clear e0' e1' x0' x1' htl
        gi_wp2
        have b1 : (j : Int) < (L : Int) + 1 := by omega
        have b2 : (j : Int) + 1 < (L : Int) + 1 := by omega
        have b3 : j < L + 1 := by omega
        have b4 : j + 1 < L + 1 := by omega
        have b5 : ((j : Int) + 1).toNat = j + 1 := by omega
        obtain ⟨W5, hW5⟩ : ∃ W5, wr.alloc (.cells #[.int .i64 (fget xs j).1, .int .i64 (fget xs j).2] 23) = W5 := ⟨_, rfl⟩
        have hbx : Below wr.heap.size wr W5 := by rw [← hW5]; exact bnew _ _
        have s5 : W5.heap.size = wr.heap.size + 1 := by rw [← hW5]; simp
        have p0 : W5.cell? ⟨wr.heap.size, 0, none⟩ = some (.int .i64 (fget xs j).1) := by rw [← hW5]; simp [go_sem]
        have p1 : W5.cell? ⟨wr.heap.size, 1, none⟩ = some (.int .i64 (fget xs j).2) := by rw [← hW5]; simp [go_sem]
        replace x0 := kc hbx x0
        replace x1 := kc hbx x1
        replace y0 := kc hbx y0
        have HN5 := Lib.hid (bthen hN hbx)
        have HT5 := Lib.hid (owns_belowF HT.out hbx)
        rw [hW5]
        have hbt := fun b (hb : u11.ownBlock = some b) => World.ownsRow.lt HT.out b hb
        generalize wr.heap.size = FB at s5 p0 p1 hbt ⊢
        clear hW5 hbx hN HT hNB e0 e1
        generalize (fget xs j).1 = f0 at p0 HST ⊢
        generalize (fget xs j).2 = f1 at p1 HST ⊢
        generalize (flatC (lnsK xs P Q j)).length = lq at hst2 hst4 HST
        generalize (numK xs P Q (j + 1)).length = n1 at hst2 hst3 x1
        generalize (numK xs P Q j).length = n0 at hst2 x0 HST
        subst hst2
        rw [wpIn_wide]
        go_quiet (fail)
        go_wp2
        have c1 : (n0 : Int) ≤ (n0 : Int) + (lq : Int) := by omega
        have c2 : (n0 : Int) + (lq : Int) ≤ (cv : Int) := by omega
        have c3 : (0 : Int) ≤ (n0 : Int) := by omega
        have c4 : ((n0 : Int) + (lq : Int)).toNat = n0 + lq := by omega
        have c5 : n0 + lq - n0 = lq := by omega
        have c6 : n0 + lq ≤ cv := by omega
        have c7 : ¬ lq = 0 := by omega
        rw [wpIn_wide]
        refine wp_normal ?_
        refine wp_region_held (S := fun W9 => (W9.cell? ⟨FB, 0, none⟩ = some (.int .i64 f0) ∧ W9.cell? ⟨FB, 1, none⟩ = some (.int .i64 f1)) ∧ W9.cell? ⟨w.heap.size, 0, none⟩ = some (.slice (some ⟨G, 0, none⟩) q cv)) hmx ?_
        change wpAnyH _ _ _ _ _ _ _ _ (World.drew _)
        have hHeld : (((W5.drewN nq).drew.cell? ⟨FB, 0, none⟩ = some (.int .i64 f0) ∧ (W5.drewN nq).drew.cell? ⟨FB, 1, none⟩ = some (.int .i64 f1)) ∧ (W5.drewN nq).drew.cell? ⟨w.heap.size, 0, none⟩ = some (.slice (some ⟨G, 0, none⟩) q cv)) := ⟨⟨p0, p1⟩, y0⟩
        refine wpAnyH_take (i := 0) (v := ?_) rfl (by kernel_rfl) (by kernel_rfl) (by kernel_rfl) (fun _ _ _ h => (by cases h.1)) (Or.inl ⟨by rfl, by intro w hSw; (try dsimp only at hSw); go_simp; try (with_reducible rfl)⟩) (by assumption) ?_
        try simp only [Act.put, List.setIfInBounds_toArray, List.set_cons_zero, List.set_cons_succ, List.getElem_toArray, List.getElem_cons_zero, List.getElem_cons_succ]
        refine wpAnyH_take (i := 1) (v := ?_) rfl (by kernel_rfl) (by kernel_rfl) (by kernel_rfl) (fun _ _ _ h => (by cases h.1)) (Or.inl ⟨by rfl, by intro w hSw; (try dsimp only at hSw); go_simp; try (with_reducible rfl)⟩) (by assumption) ?_
        try simp only [Act.put, List.setIfInBounds_toArray, List.set_cons_zero, List.set_cons_succ, List.getElem_toArray, List.getElem_cons_zero, List.getElem_cons_succ]
        refine wpAnyH_take (i := 2) (v := ?_) rfl (by kernel_rfl) (by kernel_rfl) (by kernel_rfl) (fun _ _ _ h => (by cases h.1)) (Or.inl ⟨by rfl, by intro w hSw; (try dsimp only at hSw); go_simp; try (with_reducible rfl)⟩) (by assumption) ?_
        try simp only [Act.put, List.setIfInBounds_toArray, List.set_cons_zero, List.set_cons_succ, List.getElem_toArray, List.getElem_cons_zero, List.getElem_cons_succ]
        refine wpAnyH_take (i := 3) (v := ?_) rfl (by kernel_rfl) (by kernel_rfl) (by kernel_rfl) (fun _ _ _ h => (by cases h.1)) (Or.inl ⟨by rfl, by intro w hSw; (try dsimp only at hSw); go_simp; try (with_reducible rfl)⟩) (by assumption) ?_
        try simp only [Act.put, List.setIfInBounds_toArray, List.set_cons_zero, List.set_cons_succ, List.getElem_toArray, List.getElem_cons_zero, List.getElem_cons_succ]
        refine wpAnyH_take (i := 4) (v := ?_) rfl (by kernel_rfl) (by kernel_rfl) (by kernel_rfl) (fun _ _ _ h => (by cases h.1)) (Or.inl ⟨by rfl, by intro w hSw; (try dsimp only at hSw); go_simp; try (with_reducible rfl)⟩) (by assumption) ?_
        try simp only [Act.put, List.setIfInBounds_toArray, List.set_cons_zero, List.set_cons_succ, List.getElem_toArray, List.getElem_cons_zero, List.getElem_cons_succ]
        refine wpAnyH_take (i := 5) (v := ?_) rfl (by kernel_rfl) (by kernel_rfl) (by kernel_rfl) (fun _ _ _ h => (by cases h.1)) (Or.inl ⟨by rfl, by intro w hSw; (try dsimp only at hSw); go_simp; try (with_reducible rfl)⟩) (by assumption) ?_
        try simp only [Act.put, List.setIfInBounds_toArray, List.set_cons_zero, List.set_cons_succ, List.getElem_toArray, List.getElem_cons_zero, List.getElem_cons_succ]
        refine wpAnyH_take (i := 6) (v := ?_) rfl (by kernel_rfl) (by kernel_rfl) (by kernel_rfl) (fun _ _ _ h => (by cases h.1)) (Or.inl ⟨by rfl, by intro w hSw; (try dsimp only at hSw); go_simp; try (with_reducible rfl)⟩) (by assumption) ?_
        try simp only [Act.put, List.setIfInBounds_toArray, List.set_cons_zero, List.set_cons_succ, List.getElem_toArray, List.getElem_cons_zero, List.getElem_cons_succ]
        refine wpAnyH_take (i := 7) (v := ?_) rfl (by kernel_rfl) (by kernel_rfl) (by kernel_rfl) (fun _ _ _ h => (by cases h.1)) (Or.inl ⟨by rfl, by intro w hSw; (try dsimp only at hSw); go_simp; try (with_reducible rfl)⟩) (by assumption) ?_
        try simp only [Act.put, List.setIfInBounds_toArray, List.set_cons_zero, List.set_cons_succ, List.getElem_toArray, List.getElem_cons_zero, List.getElem_cons_succ]
        obtain ⟨W6, hW6⟩ : ∃ W6, (W5.drewN nq).drew = W6 := ⟨_, rfl⟩
        have hb6 : Below W5.heap.size W5 W6 := by rw [← hW6]; exact (below_drewN (Below.refl _ _) _).drew
        have s6 : W6.heap.size = W5.heap.size := by rw [← hW6]; rfl
        have HT6 := Lib.hid (owns_belowF HT5.out hb6)
        have HN6 := Lib.hid (bthen HN5.out hb6)
        rw [hW6] at hHeld ⊢
        clear hW6 p0 p1 y0 x0 x1 HT5 HN5
        refine wpAnyH_ready (rs := [8]) (by kernel_rfl) (by simp) ?_
        refine AllReadyH.cons rfl (fun K hK => ?_) AllReadyH.nil
        go_simp
        have hb7 := bnew W6 (.cells #[.int .i64 f0, .int .i64 f1, .slice (some ⟨G, n0, none⟩) lq lq] 115)
        refine hK _ _ ⟨⟨kc hb7 hHeld.1.1, kc hb7 hHeld.1.2⟩, kc hb7 hHeld.2⟩ (fun hHeld => ?_)
        clear hK K
        try simp only [Act.put, List.setIfInBounds_toArray, List.set_cons_zero, List.set_cons_succ, List.getElem_toArray, List.getElem_cons_zero, List.getElem_cons_succ]
        refine wpAnyH_ready (rs := [9]) (by kernel_rfl) (by simp) ?_
        refine AllReadyH.cons rfl (fun K hK => ?_) AllReadyH.nil
        have hfb : FB + 1 = W6.heap.size := by omega
        refine step_append_ct _ rfl _ _ 119 rfl wo.heap.size 115 i2 (.agg #[.int .i64 0, .int .i64 0, .slice none 0 0]) 3 40 Try.underlying119 hi2 hz6 hz7 hz8 rfl (by decide) _ _ _ rfl (HT6.out.alloc _) ⟨FB + 1, 0, none⟩ 1 1 [.int .i64 f0, .int .i64 f1, .slice (some ⟨G, n0, none⟩) lq lq] rfl rfl (cell_three_newD _ hfb _ _ _ _) (one_cell_threeC _ _ _ _ _) (by unfold maxLen; omega) (by omega) (by have := HN6.out.size; simp; omega) ?_
        intro v' w9 hown' hgrow
        have HN9 := Lib.hid ((balloc HN6.out (.cells #[.int .i64 f0, .int .i64 f1, .slice (some ⟨G, n0, none⟩) lq lq] 115)).grown hgrow (by have := HN6.out.size; simp; omega) fun b e => (hbt b e).1)
        refine hK _ _ ⟨⟨hgrow.cell hHeld.1.1 (fun e => by have := (hbt _ e.symm).2; simp only [] at this; omega), hgrow.cell hHeld.1.2 (fun e => by have := (hbt _ e.symm).2; simp only [] at this; omega)⟩, hgrow.cell hHeld.2 (fun e => by have := (hbt _ e.symm).1; simp only [] at this; omega)⟩ (fun hHeld => ?_)
        have HOWN := Lib.hid hown'
        clear hK K hgrow hown' b1 b2 b3 b4 b5 c1 c2 c3 c4 c5 c6 c7 hfb
        try simp only [Act.put, List.setIfInBounds_toArray, List.set_cons_zero, List.set_cons_succ, List.getElem_toArray, List.getElem_cons_zero, List.getElem_cons_succ]
        refine wpAnyH_take (i := 10) (v := ?_) rfl (by kernel_rfl) (by kernel_rfl) (by kernel_rfl) (fun _ _ _ h => (by cases h.1)) (Or.inl ⟨by rfl, by intro w hSw; (try dsimp only at hSw); go_simp; try (with_reducible rfl)⟩) (by assumption) ?_
        try simp only [Act.put, List.setIfInBounds_toArray, List.set_cons_zero, List.set_cons_succ, List.getElem_toArray, List.getElem_cons_zero, List.getElem_cons_succ]
        refine wpAnyH_done (by kernel_rfl) ⟨rfl, ?_⟩ _
        gi_wp2
        go_roundw
        case rel => exact ⟨j + 1, by omega, by go_num, Lib.hid (by rw [HST.out]; exact HOWN.out), HN9.out⟩
        case measure => simp [intOf]; omega
      · obtain rfl : L = j := by omega
        obtain ⟨aT, capT, rfl⟩ : ∃ aT capT, u11 = .slice aT L capT := by
          obtain ⟨_, ⟨rfl, h0⟩ | ⟨g, c, cur, rfl, _⟩⟩ := HT.out
          · exact ⟨none, 0, by rw [h0]⟩
          · exact ⟨_, c, rfl⟩
        have hNB := bthen hB hN
        gi_wp2
        refine leaves_marks (lo := w.heap.size) Ds _ HPW.out (fun D hD => ⟨(HMK.out D hD).1, (hN.block D (Array.getElem?_eq_some_iff.1 (HMK.out D hD).2).1).trans (HMK.out D hD).2⟩) hNB.size fun W' hW' => ?_
        refine ⟨.slice aT L capT, by simp [results, Try.results89, go_sem], aT, capT, svC xs P Q (blkC av), rfl, tcells_of (hW'.row HT.out), fun j hj => ?_, hNB.trans hW'.below⟩
        obtain ⟨m, x, R, e1, e2, m4, _⟩ := fok_c (hx.out j hj)
        obtain ⟨G, rfl⟩ : ∃ G, av = some ⟨G, 0, none⟩ := by
          obtain ⟨_, ⟨e, h0⟩ | ⟨G, c, cur, e, _⟩⟩ := HO0.out
          · obtain ⟨tl, htl⟩ := numK_pre xs P Q (show j + 1 ≤ L by omega)
            have hst4 : 0 < (flatC (lnsK xs P Q j)).length := by rw [lnsK_len]; exact Nat.mul_pos (Nat.pow_pos Q0) (Nat.succ_pos _)
            rw [htl, numK_succ, List.length_append, List.length_append] at h0
            omega
          · cases e
            exact ⟨G, rfl⟩
        obtain ⟨tl, htl⟩ := numK_pre xs P Q (show j + 1 ≤ L by omega)
        have hP : 2 ^ P ≤ 16 := by rw [← hQ.out]; exact Q16
        refine ⟨G, (numK xs P Q j).length, rfl, rfl, rfl, lnC_of (post := tl) (hW'.row (owns_belowF HO0.out hN)) (by rw [htl, numK_succ]) (fun z hz => (linesL_mem hz).1) fun z hz => ?_⟩
        obtain ⟨h1, h2, h3⟩ := linesL_mem hz
        exact ⟨fun a ha => by have := h2 a ha; omega, by omega⟩
end Go.Proofs.Ytdgpjpcdifpllaa

/- CE2:
  CentraliserOf in both packages: the errors. -/
namespace Go.Proofs.Ytdgpjpcdifpllaa
open Go.RowKit Go.Shelf
set_option linter.unusedVariables false
set_option linter.unusedSimpArgs false

set_option maxRecDepth 100000 in
set_option maxHeartbeats 2000000 in
theorem specCentraliserOf_no {base : Nat} {s : Value} {xs : List (Int × Int)} (hl : xs.length ≤ 1048576) {c : Int} (hc : codeL xs = c) (hz : (c != 0) = true) (n : Int) (w : World) (h : OwnsF w base s xs) :
    Calls Try.prog 22 #[s, .int .i64 n] w (FListCodePost w.heap.size [] c w) := by
  have LC := Lib.hid (l02Code_any hl w h hc)
  have hz2 : (c == 0) = false := by simpa using hz
  obtain ⟨a, cap, rfl, _⟩ := cellsV_of h
  clear h hc hl
  generalize xs.length = L at LC ⊢
  go_enter Try.func22, Try.ntmps22
  go_wp2_with (go_at_call 78; refine LC.out.mono ?_; rintro e w2 ⟨rfl, hb2⟩)
  go_ret2
  exact ⟨_, rfl, OwnsF.nil _ _, hb2⟩
set_option maxRecDepth 100000 in
set_option maxHeartbeats 2000000 in
theorem specCentraliserOf_range {base : Nat} {s : Value} {xs : List (Int × Int)} (hl : xs.length ≤ 1048576) (hc : codeL xs = 0) (n : Int) (hn : inB n 0 3 = false) (w : World) (h : OwnsF w base s xs) :
    Calls Try.prog 22 #[s, .int .i64 n] w (FListCodePost w.heap.size [] 2 w) := by
  have LC := Lib.hid (l02Code_any hl w h hc)
  obtain ⟨a, cap, rfl, _⟩ := cellsV_of h
  clear h hc hl
  generalize xs.length = L at LC ⊢
  go_enter Try.func22, Try.ntmps22
  go_wp2_with (first
    | (go_at_call 78; refine LC.out.mono ?_; rintro e w2 ⟨rfl, hb2⟩)
    | (go_at_call 84; refine (l01In_is hn _).mono ?_; rintro e w' ⟨rfl, rfl⟩))
  go_ret2
  exact ⟨_, rfl, OwnsF.nil _ _, hb2⟩
set_option maxRecDepth 100000 in
set_option maxHeartbeats 2000000 in
theorem implCentraliserOf_no {base : Nat} {s : Value} {xs : List (Int × Int)} (hl : xs.length ≤ 1048576) {c : Int} (hc : codeL xs = c) (hz : (c != 0) = true) (n : Int) (w : World) (h : OwnsF w base s xs) :
    Calls Try.prog 24 #[s, .int .i64 n] w (FListCodePost w.heap.size [] c w) := by
  have LC := Lib.hid (listCode_any hl w h hc)
  obtain ⟨a, cap, rfl, _⟩ := cellsV_of h
  clear h hc hl
  generalize xs.length = L at LC ⊢
  go_enter Try.func24, Try.ntmps24
  go_wp2_with (go_at_call 82; refine LC.out.mono ?_; rintro e w2 ⟨rfl, hb2⟩)
  go_ret2
  exact ⟨_, rfl, OwnsF.nil _ _, hb2⟩
set_option maxRecDepth 100000 in
set_option maxHeartbeats 2000000 in
theorem implCentraliserOf_range {base : Nat} {s : Value} {xs : List (Int × Int)} (hl : xs.length ≤ 1048576) (hc : codeL xs = 0) (n : Int) (hn : inB n 0 3 = false) (w : World) (h : OwnsF w base s xs) :
    Calls Try.prog 24 #[s, .int .i64 n] w (FListCodePost w.heap.size [] 2 w) := by
  have LC := Lib.hid (listCode_any hl w h hc)
  obtain ⟨a, cap, rfl, _⟩ := cellsV_of h
  clear h hc hl
  generalize xs.length = L at LC ⊢
  have h2 : n < 0 ∨ 3 < n := by
    have : ¬ (0 ≤ n ∧ n ≤ 3) := by simpa [inB] using hn
    omega
  rcases h2 with h2 | h2
  · have hd : decide (n < 0) = true := by simpa using h2
    go_enter Try.func24, Try.ntmps24
    go_wp2_with (go_at_call 82; refine LC.out.mono ?_; rintro e w2 ⟨rfl, hb2⟩)
    go_ret2
    exact ⟨_, rfl, OwnsF.nil _ _, hb2⟩
  · have hd : decide (n < 0) = false := by simp; omega
    have hd2 : decide (3 < n) = true := by simpa using h2
    go_enter Try.func24, Try.ntmps24
    go_wp2_with (go_at_call 82; refine LC.out.mono ?_; rintro e w2 ⟨rfl, hb2⟩)
    go_ret2
    exact ⟨_, rfl, OwnsF.nil _ _, hb2⟩
end Go.Proofs.Ytdgpjpcdifpllaa

/- CE4:
  CentraliserOf in both packages. -/
namespace Go.Proofs.Ytdgpjpcdifpllaa
open Go.RowKit Go.Shelf
set_option linter.unusedVariables false
set_option linter.unusedSimpArgs false

set_option maxRecDepth 100000 in
set_option maxHeartbeats 4000000 in
theorem implCentraliserOf_yes {base : Nat} {s : Value} {xs : List (Int × Int)} (hc : codeL xs = 0) (n : Int) (h0 : 0 ≤ n) (h3 : n ≤ 3) {R T : Nat} (r0 : 0 < R) (r16 : R ≤ 16) (hR : Hid (rowsN n = (R : Int))) (hT : Hid (T = 2 ^ R)) (hT0 : 0 < T) (hT16 : T ≤ 65536) (ok : ∀ x, x < T → FOk n x R) (w : World) (hs : OwnsF w base s xs) :
    Calls Try.prog 24 #[s, .int .i64 n] w (FListCodePost w.heap.size (cenL n xs T) 0 w) := by
  obtain ⟨hx, h8⟩ := codeL_two hc
  have LC := Lib.hid (listCode_any (by omega) w hs hc)
  obtain ⟨a, cap, rfl, hC⟩ := cellsV_of hs
  obtain ⟨P, rfl⟩ := Int.eq_ofNat_of_zero_le h0
  have hRP : R = 2 ^ P := by have := (ok 0 hT0).he; simpa using this
  obtain ⟨L, hL⟩ : ∃ L, xs.length = L := ⟨_, rfl⟩
  have HCU := Lib.hid (show cenF (P : Int) xs L (upto hT0 T) = cenL (P : Int) xs T by rw [← hL]; exact cenF_upto hT0 (P : Int) xs T (Nat.le_refl _))
  have CT := Lib.hid fun W (hW : Hid (CellsV a L xs W)) => columnTablesOf_any hL (by omega) (Lib.hid (by rw [← hL]; exact hx)) (n := (P : Int)) rfl h0 (by omega) r0 r16 hR (Lib.hid hRP) (a := a) (cap := cap) W hW
  have HX : Hid (∀ i, i < L → isF (fget xs i).1 (fget xs i).2 = true) := Lib.hid (by rw [← hL]; exact hx)
  have h8' : L ≤ 8 := by omega
  have CA := Lib.hid fun Bs capT aT sv W (h1 : W.cell? ⟨Bs, 0, none⟩ = some (.int .i64 (P : Int))) h2 h3 => centraliserAmongC_any (xs := xs) (L := L) h8' (P : Int) h0 (by omega) r0 r16 hR hT hT0 hT16 Bs capT aT sv W h1 h2 h3
  rw [hL] at hC LC ⊢
  have HRP := Lib.hid hRP
  have HOK := Lib.hid ok
  clear hs hc hx ok hL h8 hRP hR hT
  have hd1 : decide ((P : Int) < 0) = false := by simp
  have hd2 : decide ((3 : Int) < (P : Int)) = false := by simp; omega
  go_enter Try.func24, Try.ntmps24
  go_wp2_with (first
    | (go_at_call 82; refine LC.out.mono ?_; rintro e w2 ⟨rfl, hb2⟩)
    | (go_at_call 88; refine (funcsOfArity_any _ _).mono ?_; rintro e w' ⟨rfl, rfl⟩)
    | (go_at_call 89; refine (CT.out _ (Lib.hid (hC.out.below (balloc hb2 _)))).mono ?_; rintro e w5 ⟨aT, capT, sv, rfl, hTc, hLn, hb5⟩)
    | (go_at_call 87
       refine (CA.out w2.heap.size capT aT sv w5 (kc hb5 (by simp [go_sem])) (Lib.hid hTc) (Lib.hid fun j hj y hy W hW => ?_)).mono ?_
       rotate_left
       rintro e w6 ⟨s6, rfl, ho6, hb6⟩))
  · go_ret2
    refine ⟨s6, rfl, ?_, bthen (bthen (balloc hb2 _) hb5) hb6⟩
    rw [← HCU.out]
    exact ho6.mono (by have := hb2.size; have := hb5.size; simp at this; omega)
  · obtain ⟨m, x, R', e1, e2, m4, okx⟩ := fok_c (HX.out j hj)
    obtain ⟨U, o, q1, q2, q3, hl⟩ := hLn j hj
    rw [e1, e2, q1, q2, q3]
    rw [e1, Int.toNat_natCast] at hl
    have hln : lnsK xs P R j = linesL x P R m := by unfold lnsK; rw [e1, e2]; simp
    rw [hln] at hl ⊢
    have hfl : (flatC (linesL x P R m)).length = (linesL x P R m).length * (m + 1) := flatC_len (m := m) _ fun z hz => (linesL_mem hz).1
    have hle : (linesL x P R m).length * (m + 1) ≤ 1000000 := by rw [linesL_len]; have := mul_bound (pow_bound r16 m4) m4; omega
    have := commutesWith_any okx m4 (n := (P : Int)) (y := y) (HOK.out y hy).hx (U := U) (o := o) (len := (flatC (linesL x P R m)).length) (cap := (flatC (linesL x P R m)).length) hfl hle (Nat.le_refl _) W (Lib.hid (hl.below hW))
    refine this.mono ?_
    rintro e w' ⟨rfl, hb⟩
    refine ⟨?_, hb⟩
    unfold comP comB
    rw [show fget xs j = ((m : Int), (x : Int)) from Prod.ext e1 e2]
    simp only [Int.toNat_natCast]
    rw [HRP.out]

theorem bothCentraliserOf {xs : List (Int × Int)} (hl : xs.length ≤ 1048576) (n : Int) : ∃ (ys : List (Int × Int)) (rc : Int), ys.length ≤ 100000 ∧
    (∀ base s w, OwnsF w base s xs → Calls Try.prog 22 #[s, .int .i64 n] w (FListCodePost w.heap.size ys rc w)) ∧
    (∀ base s w, OwnsF w base s xs → Calls Try.prog 24 #[s, .int .i64 n] w (FListCodePost w.heap.size ys rc w)) := by
  by_cases hc : codeL xs = 0
  · cases hin : inB n 0 3
    · exact ⟨[], 2, by simp, fun base s w h => specCentraliserOf_range hl hc n hin w h, fun base s w h => implCentraliserOf_range hl hc n hin w h⟩
    · have hn2 : 0 ≤ n ∧ n ≤ 3 := by simpa [inB] using hin
      obtain ⟨R, T, r0, r16, hR, hT, hT0, hT16, hA, ok⟩ := arity_nums (n := n) hn2.1 (by omega)
      exact ⟨cenL n xs T, 0, by have := cenL_len n xs T; omega, fun base s w h => specCentraliserOf_yes hc n hin hn2.1 (by omega) hT0 hT16 hA ok w h, fun base s w h => implCentraliserOf_yes hc n hn2.1 hn2.2 r0 r16 hR hT hT0 hT16 ok w h⟩
  · exact ⟨[], codeL xs, by simp, fun base s w h => specCentraliserOf_no hl rfl (by simpa using hc) n w h, fun base s w h => implCentraliserOf_no hl rfl (by simpa using hc) n w h⟩
end Go.Proofs.Ytdgpjpcdifpllaa

/- H9:
  Lists beside each other: one is marked, the others are as they were. -/
namespace Go.Proofs.Ytdgpjpcdifpllaa
open Go.RowKit
theorem Owns.ge {W : World} {b : Nat} {s : Value} {xs : List Int} (h : Owns W b s xs) : ∀ k, s.ownBlock = some k → b ≤ k := fun k hk => (World.ownsRow.lt h k hk).1
theorem Owns.keep {W W' : World} {b : Nat} {s : Value} {xs : List Int} {row : Option Nat} (h : Owns W b s xs) (hg : W.grownBy W' row) (hne : ∀ k, s.ownBlock = some k → some k ≠ row) : Owns W' b s xs := by
  refine World.ownsRow.kept h hg ?_
  cases hs : s.ownBlock with
  | none => exact .inl rfl
  | some k => exact .inr (hne k hs)
theorem below_markedF {B : Nat} {W0 W W' : World} {b : Nat} {s : Value} {xs : List (Int × Int)} (hN : Below B W0 W) (h : OwnsF W b s xs) (hg : W.grownBy W' s.ownBlock) (hB : B ≤ b) (hs : B ≤ W.heap.size) : Below B W0 W' :=
  hN.grown hg hs (fun j e => Nat.le_trans hB (h.ge j e))
end Go.Proofs.Ytdgpjpcdifpllaa

/- FCentraliserOf:
  The walk of the law on CentraliserOf: both packages answer alike, and the list that came in is as it was. -/
namespace Go.Proofs.Ytdgpjpcdifpllaa
open Go.RowKit
set_option linter.unusedVariables false

set_option maxRecDepth 100000 in
set_option maxHeartbeats 4000000 in
theorem fnExactCentraliserOf_walk (a0 : Option Addr) (len0 cap0 : Nat) (z0 : List (Int × Int)) (a1 : Int) (w : World) (hr0 : IsRowF w a0 len0 z0) (wa1 : (Lit.int .i64 a1).wf = true) :
    Calls Try.prog 5 #[.slice a0 len0 cap0, .int .i64 a1] w fun e w' => e = .returned (.bool true) ∧ Below w.heap.size w w' := by
  by_cases hle : len0 ≤ 1048576
  · have hxl : z0.length ≤ 1048576 := by rw [hr0.1]; exact hle
    obtain ⟨ys, rc, hlen, c1, c2⟩ := bothCentraliserOf hxl a1
    have C1 := Lib.hid c1
    have C2 := Lib.hid c2
    have HR := Lib.hid hr0
    have HX := Lib.hid hxl
    clear c1 c2 hr0 hxl
    obtain ⟨W1, hW1⟩ : ∃ W1, w = W1 := ⟨_, rfl⟩
    have hN : Below w.heap.size w W1 := by rw [← hW1]; exact Below.refl _ _
    go_enter Try.func5, Try.ntmps5
    go_wp2_with fail
    clear hW1
    refine (szFuncS_ok a0 len0 cap0 hle _).mono ?_
    rintro e w' ⟨rfl, rfl⟩
    go_wp2_with fail
    have hs_O1 := hN.size
    go_wp2_with fail
    refine (toFuncS_any HR.out hle _ hN).mono ?_
    rintro e w2 ⟨s1, rfl, o, hb⟩
    have O1 := Lib.hid o
    clear o
    replace hN := bthen hN hb
    clear hb
    go_wp2_with fail
    have lt_O1_O2 := Lib.hid O1.out.lt
    have hs_O2 := hN.size
    go_wp2_with fail
    refine (C1.out _ _ _ O1.out).mono ?_
    rintro e w3 ⟨s2, rfl, o, hb⟩
    have O2 := Lib.hid o
    clear o
    replace hN := bthen hN hb
    replace O1 := Lib.hid (O1.out.below hb)
    clear hb
    clear O1
    go_wp2_with fail
    have lt_O2_O3 := Lib.hid O2.out.lt
    have hs_O3 := hN.size
    go_wp2_with fail
    refine (toFuncS_any HR.out hle _ hN).mono ?_
    rintro e w4 ⟨s3, rfl, o, hb⟩
    have O3 := Lib.hid o
    clear o
    replace hN := bthen hN hb
    replace O2 := Lib.hid (O2.out.below hb)
    clear hb
    go_wp2_with fail
    have lt_O2_O4 := Lib.hid O2.out.lt
    have lt_O3_O4 := Lib.hid O3.out.lt
    have hs_O4 := hN.size
    go_wp2_with fail
    refine (C2.out _ _ _ O3.out).mono ?_
    rintro e w5 ⟨s4, rfl, o, hb⟩
    have O4 := Lib.hid o
    clear o
    replace hN := bthen hN hb
    replace O2 := Lib.hid (O2.out.below hb)
    replace O3 := Lib.hid (O3.out.below hb)
    clear hb
    go_wp2_with fail
    refine (eqFuncS_same (by omega) _ O4.out O2.out).mono ?_
    rintro e w6 ⟨rfl, hb⟩
    replace hN := bthen hN hb
    replace O2 := Lib.hid (O2.out.below hb)
    replace O3 := Lib.hid (O3.out.below hb)
    replace O4 := Lib.hid (O4.out.below hb)
    clear hb
    go_wp2_with fail
    have lt_O2_O5 := Lib.hid O2.out.lt
    have lt_O3_O5 := Lib.hid O3.out.lt
    have lt_O4_O5 := Lib.hid O4.out.lt
    have hs_O5 := hN.size
    go_wp2_with fail
    refine (toFuncS_any HR.out hle _ hN).mono ?_
    rintro e w7 ⟨s5, rfl, o, hb⟩
    have O5 := Lib.hid o
    clear o
    replace hN := bthen hN hb
    replace O2 := Lib.hid (O2.out.below hb)
    replace O3 := Lib.hid (O3.out.below hb)
    replace O4 := Lib.hid (O4.out.below hb)
    clear hb
    go_wp2_with fail
    refine (eqFuncS_same (by have := HX.out; omega) _ O3.out O5.out).mono ?_
    rintro e w8 ⟨rfl, hb⟩
    replace hN := bthen hN hb
    replace O2 := Lib.hid (O2.out.below hb)
    replace O3 := Lib.hid (O3.out.below hb)
    replace O4 := Lib.hid (O4.out.below hb)
    replace O5 := Lib.hid (O5.out.below hb)
    clear hb
    clear O5
    go_wp2_with fail
    refine (markFuncS_any (by have := HX.out; omega) 1 (by omega) (by omega) _ O3.out).mono ?_
    rintro e w9 ⟨rfl, o, hg⟩
    replace hN := below_markedF hN O3.out hg hs_O3 hN.size
    replace O2 := Lib.hid (O2.out.keep hg fun k hk he => by have h1 := lt_O2_O3.out k hk; have h2 := O3.out.ge k he.symm; omega)
    replace O4 := Lib.hid (O4.out.keep hg fun k hk he => by have h1 := lt_O3_O4.out k he.symm; have h2 := O4.out.ge k hk; omega)
    replace O3 := Lib.hid o
    clear o hg
    go_wp2_with fail
    refine (eqFuncS_same (by omega) _ O4.out O2.out).mono ?_
    rintro e w10 ⟨rfl, hb⟩
    replace hN := bthen hN hb
    replace O2 := Lib.hid (O2.out.below hb)
    replace O3 := Lib.hid (O3.out.below hb)
    replace O4 := Lib.hid (O4.out.below hb)
    clear hb
    clear O3
    go_wp2_with fail
    refine (markFuncS_any (by omega) 1 (by omega) (by omega) _ O4.out).mono ?_
    rintro e w11 ⟨rfl, o, hg⟩
    replace hN := below_markedF hN O4.out hg hs_O4 hN.size
    replace O2 := Lib.hid (O2.out.keep hg fun k hk he => by have h1 := lt_O2_O4.out k hk; have h2 := O4.out.ge k he.symm; omega)
    replace O4 := Lib.hid o
    clear o hg
    go_wp2_with fail
    refine (heldFuncS_any (by omega) 1 (by omega) (by omega) _ O4.out).mono ?_
    rintro e w12 ⟨rfl, rfl⟩
    go_wp2_with fail
    have lt_O2_O6 := Lib.hid O2.out.lt
    have lt_O4_O6 := Lib.hid O4.out.lt
    have hs_O6 := hN.size
    go_wp2_with fail
    refine (toFuncS_any HR.out hle _ hN).mono ?_
    rintro e w13 ⟨s6, rfl, o, hb⟩
    have O6 := Lib.hid o
    clear o
    replace hN := bthen hN hb
    replace O2 := Lib.hid (O2.out.below hb)
    replace O4 := Lib.hid (O4.out.below hb)
    clear hb
    go_wp2_with fail
    have lt_O2_O7 := Lib.hid O2.out.lt
    have lt_O4_O7 := Lib.hid O4.out.lt
    have lt_O6_O7 := Lib.hid O6.out.lt
    have hs_O7 := hN.size
    go_wp2_with fail
    refine (C2.out _ _ _ O6.out).mono ?_
    rintro e w14 ⟨s7, rfl, o, hb⟩
    have O7 := Lib.hid o
    clear o
    replace hN := bthen hN hb
    replace O2 := Lib.hid (O2.out.below hb)
    replace O4 := Lib.hid (O4.out.below hb)
    replace O6 := Lib.hid (O6.out.below hb)
    clear hb
    clear O6
    go_wp2_with fail
    refine (eqFuncS_same (by omega) _ O7.out O2.out).mono ?_
    rintro e w15 ⟨rfl, hb⟩
    replace hN := bthen hN hb
    replace O2 := Lib.hid (O2.out.below hb)
    replace O4 := Lib.hid (O4.out.below hb)
    replace O7 := Lib.hid (O7.out.below hb)
    clear hb
    clear O7
    go_wp2_with fail
    refine (heldFuncS_any (by omega) 1 (by omega) (by omega) _ O4.out).mono ?_
    rintro e w16 ⟨rfl, rfl⟩
    go_wp2
    go_ret
    exact ⟨rfl, hN⟩
  · have hlim := hr0.2.1
    clear hr0
    obtain ⟨W1, hW1⟩ : ∃ W1, w = W1 := ⟨_, rfl⟩
    have hN : Below w.heap.size w W1 := by rw [← hW1]; exact Below.refl _ _
    go_enter Try.func5, Try.ntmps5
    go_wp2_with (go_at_call 21; refine (szFuncS_over a0 len0 cap0 (by omega) hlim _).mono ?_; rintro e w' ⟨rfl, rfl⟩)
    go_ret
    exact ⟨rfl, hN⟩
end Go.Proofs.Ytdgpjpcdifpllaa
