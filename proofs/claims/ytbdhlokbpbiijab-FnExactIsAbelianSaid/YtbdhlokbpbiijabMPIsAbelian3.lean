/-
  The texts AB2, CM3, CM4, AB3, FIsAbelian in one.
-/
import Derived.Test.YtbdhlokbpbiijabMPIsAbelian2
import Derived.WalkMore

/- AB2:
  centraliserAmong of the program, at functions. -/
namespace Go.Proofs.Ytbdhlokbpbiijab
open Go.RowKit Go.Shelf
attribute [local go_sem] Oper.semAt_some
set_option linter.unusedVariables false
set_option linter.unusedSimpArgs false

/-- Two functions commute. -/
def comP (p q : Int × Int) : Bool := comB p.2.toNat q.2.toNat p.1.toNat q.1.toNat (2 ^ q.1.toNat)
theorem areCommuting_p {p q : Int × Int} (hp : isF p.1 p.2 = true) (hq : isF q.1 q.2 = true) (w : World) :
    Calls Try.prog 76 #[.agg #[.int .i64 p.1, .int .i64 p.2], .agg #[.int .i64 q.1, .int .i64 q.2]] w fun e w' => e = .returned (.bool (comP p q)) ∧ Below w.heap.size w w' := by
  obtain ⟨n, b⟩ := p
  obtain ⟨n2, b2⟩ := q
  obtain ⟨x, R, rfl, ok⟩ := fok hp
  obtain ⟨y, Q, rfl, okg⟩ := fok hq
  obtain ⟨m, rfl⟩ : ∃ m : Nat, n = (m : Int) := Int.eq_ofNat_of_zero_le ok.h0
  obtain ⟨P, rfl⟩ : ∃ P : Nat, n2 = (P : Int) := Int.eq_ofNat_of_zero_le okg.h0
  have h := areCommuting_any ok (by have := ok.h4; omega) okg w
  have hQ : Q = 2 ^ P := by have := okg.he; simpa using this
  rw [hQ] at h
  exact h

/-- g commutes with the first k functions of a list. -/
def abTo2 (xs : List (Int × Int)) (g : Int × Int) (k : Nat) : Bool := allLt k fun i => comP (fget xs i) g
theorem abTo2_succ (xs : List (Int × Int)) (g : Int × Int) (k : Nat) : abTo2 xs g (k + 1) = (abTo2 xs g k && comP (fget xs k) g) := allLt_succ _ _
theorem abTo2_no {xs : List (Int × Int)} {g : Int × Int} {i L : Nat} (hi : i < L) (h : comP (fget xs i) g = false) : abTo2 xs g L = false := by
  cases hc : abTo2 xs g L
  · rfl
  · have := allLt_iff.1 hc i hi
    rw [h] at this
    cases this
/-- Those of the places handed out so far that commute with all. -/
def abF {T : Nat} (xs : List (Int × Int)) (L : Nat) (pre : List (Row T)) : List (Int × Int) := (pre.filter fun x => abTo2 xs (fget xs x.1) L).map fun x => fget xs x.1
theorem abF_yes {T : Nat} (xs : List (Int × Int)) (L : Nat) (pre : List (Row T)) (x : Row T) (h : abTo2 xs (fget xs x.1) L = true) : abF xs L (pre ++ [x]) = abF xs L pre ++ [fget xs x.1] := by simp [abF, h]
theorem abF_no {T : Nat} (xs : List (Int × Int)) (L : Nat) (pre : List (Row T)) (x : Row T) (h : abTo2 xs (fget xs x.1) L = false) : abF xs L (pre ++ [x]) = abF xs L pre := by simp [abF, h]
theorem abF_len {T : Nat} (xs : List (Int × Int)) (L : Nat) (pre : List (Row T)) : (abF xs L pre).length ≤ pre.length := by
  unfold abF
  rw [List.length_map]
  exact List.length_filter_le _ _
theorem keepV_of {Bs n₀ m : Nat} {a : Option Addr} {W W' : World} (hb : Below n₀ W W') (hBs : Bs < n₀) (hg : ∀ g, a = some ⟨g, 0, none⟩ → 0 < m → g < n₀) : KeepV Bs a m n₀ W W' :=
  ⟨hb, fun v hv => (hb.cell (p := ⟨Bs, 0, none⟩) hBs).trans hv, fun g e j hj v hv => (hb.cell (p := ⟨g, j, none⟩) (hg g e (by omega))).trans hv⟩

set_option maxRecDepth 100000 in
set_option maxHeartbeats 8000000 in
theorem centraliserAmong_any {xs : List (Int × Int)} {L : Nat} (hl : L ≤ 8) (hx : ∀ j, j < L → isF (fget xs j).1 (fget xs j).2 = true) (Bs cap : Nat) (a : Option Addr) (w : World) (hs : w.cell? ⟨Bs, 0, none⟩ = some (.slice a L cap)) (hC : Hid (CellsV a L xs w)) :
    Calls Try.prog 85 #[.func (.func 111) #[] #[.pointer (some ⟨Bs, 0, none⟩)], .slice a L cap, .func (.func 76) #[] #[]] w fun e w' => ∃ s, e = .returned s ∧ OwnsF w' w.heap.size s (abF xs L (rowsUp L L)) ∧ Below w.heap.size w w' := by
  obtain ⟨i0, hi, hz0, hz1, hz2⟩ := info_parts infoF
  have HX := Lib.hid hx
  have lBs := cell_lt hs
  have HG := Lib.hid (fun g (e : a = some (⟨g, 0, none⟩ : Addr)) (h0 : 0 < L) => (show g < w.heap.size by
    obtain ⟨g', e', h1, _⟩ := hC.out 0 h0
    rw [e] at e'
    cases e'
    exact cell_lt h1))
  clear hx
  refine (callsIn_wide (n := 3)).1 ?_
  refine callsIn_of_wp_marks Try.func85 rfl trivial ?_ rfl
  simp only [Try.ntmps85, List.size_toArray, List.length_cons, List.length_nil, Nat.reduceAdd, Nat.reduceSub, Array.replicate_succ, Array.replicate_zero, List.push_toArray, List.append_toArray, List.nil_append, List.cons_append]
  gi_wp2_with fail
  rw [wpIn_wide]
  apply wp_scope_straight
  rw [← wpIn_wide (n := 3)]
  gi_wp2
  refine wpIn_label ?_
  gi_wp2
  obtain ⟨W0, hW0⟩ : ∃ W0, ((w.alloc (.cells #[.slice a L cap] 52)).alloc (.cells #[.func (.func 76) #[] #[]] 85)).alloc (.cells #[.slice none 0 0] 52) = W0 := ⟨_, rfl⟩
  have e1 : (w.alloc (.cells #[.slice a L cap] 52)).heap.size = w.heap.size + 1 := by simp
  have e2 : ((w.alloc (.cells #[.slice a L cap] 52)).alloc (.cells #[.func (.func 76) #[] #[]] 85)).heap.size = w.heap.size + 1 + 1 := by simp
  have hb4 : Boxed W0 w.heap.size 52 (.slice a L cap) := by rw [← hW0]; exact ((Boxed.new _ _ _).alloc _).alloc _
  have hb5 : Boxed W0 (w.heap.size + 1) 85 (.func (.func 76) #[] #[]) := by rw [← hW0, ← e1]; exact (Boxed.new _ _ _).alloc _
  have hbx : Boxed W0 (w.heap.size + 1 + 1) 52 (.slice none 0 0) := by rw [← hW0, ← e2]; exact Boxed.new _ _ _
  have hs0 : W0.cell? ⟨Bs, 0, none⟩ = some (.slice a L cap) := by rw [← hW0]; exact kc (bnew _ _) (kc (bnew _ _) (kc (bnew _ _) hs))
  have hsz : W0.heap.size = w.heap.size + 3 := by rw [← hW0]; simp [go_sem]
  have hB0 : Below w.heap.size w W0 := by rw [← hW0]; exact balloc (balloc (bnew _ _) _) _
  have hC0 : Hid (CellsV a L xs W0) := Lib.hid (hC.out.below hB0)
  try rw [hW0]
  clear hW0 e1 e2
  refine wpIn_rangeFunc_ownH (α := Row L) rfl (by omega) (gf := 111) (lb := #[.pointer (some ⟨Bs, 0, none⟩)]) rfl trivial (enters_of Try.func111 (by kernel_rfl) rfl)
    (values_stops (3 - 1) (by omega) Bs w.heap.size cap a L xs (by omega) W0 hs0 hC0) keepV_t (keepV_b (by omega)) (Below.refl _ _) (fun _ => rfl)
    (fun pre W => (∃ v, Boxed W (w.heap.size + 1 + 1) 52 v ∧ W.ownsRow (w.heap.size + 1 + 1) 43 2 v (abF xs L pre).length (fcells (abF xs L pre)) ∧ True) ∧ (Boxed W w.heap.size 52 (.slice a L cap) ∧ (Boxed W (w.heap.size + 1) 85 (.func (.func 76) #[] #[]) ∧ Below w.heap.size w W)))
    (fun _ _ _ => False)
    (OwnFrom.and (Own.from (holdsRow_own (w.heap.size + 1 + 1) (w.heap.size + 1 + 1) 52 43 2 (fun pre => (abF xs L pre).length) (fun pre => fcells (abF xs L pre)) (fun _ _ => True)) _) (OwnFrom.and ((boxed_own w.heap.size 52 (fun _ => .slice a L cap)).from _) (OwnFrom.and ((boxed_own (w.heap.size + 1) 85 (fun _ => .func (.func 76) #[] #[])).from _) (ownFrom_below (Nat.le_refl _) (by omega)))))
    (fun _ _ _ _ _ hs _ _ => hs)
    ⟨⟨_, hbx, World.ownsRow_nil _ _ _ _, trivial⟩, hb4, hb5, hB0⟩
    (fun x a' W => ∃ BX, a' = { tmps := #[.func (.func 111) #[] #[.pointer (some ⟨Bs, 0, none⟩)], .slice a L cap, .func (.func 76) #[] #[], undef, .pointer (some ⟨w.heap.size, 0, none⟩), .pointer (some ⟨w.heap.size + 1, 0, none⟩), .slice none 0 0, .pointer (some ⟨w.heap.size + 1 + 1, 0, none⟩), .pointer (some ⟨BX, 0, none⟩), undef, undef, .func (.func 111) #[] #[.pointer (some ⟨Bs, 0, none⟩)], .agg #[.int .i64 (fget xs x.1).1, .int .i64 (fget xs x.1).2], undef, undef, undef, undef, undef, undef, undef, undef, undef, undef, undef, undef, undef, undef, undef, undef, undef], defers := [] } ∧ (W.cell? ⟨BX, 0, none⟩ = some (.int .i64 (fget xs x.1).1) ∧ W.cell? ⟨BX, 1, none⟩ = some (.int .i64 (fget xs x.1).2)))
    (fun x a' W A B row ⟨BX, e, hb⟩ hg hr => ⟨BX, e, ⟨cell_kept hb.1 hg (fun r er => (hr r er).2), cell_kept hb.2 hg (fun r er => (hr r er).2)⟩⟩)
    ?assign ?body ?done ?stop
  case assign =>
    rintro l pre x W K ⟨⟨v, hv, hrow, _⟩, hm4, hm5, hB⟩ hK
    unfold encV
    gi_wp2
    refine hK _ _ ((KeepsOthers.alloc W _).from _) (keepV_below (by have := hB.size; omega) (bnew _ _)) ⟨⟨v, hv.alloc _, hrow.alloc _, trivial⟩, hm4.alloc _, hm5.alloc _, balloc hB _⟩ ⟨W.heap.size, rfl, ⟨by simp [go_sem], by simp [go_sem]⟩⟩
  case body =>
    clear hbx hb4 hb5 hs0 hC0
    rintro l pre x _ W hl hrec ⟨⟨v, hv, hrow, _⟩, hm4, hm5, hB⟩ ⟨BX, rfl, c0, c1⟩ hlen
    clear hrec
    have hxF := HX.out x.1 x.2
    have hle := abF_len xs L pre
    have HM4 := Lib.hid hm4
    have HM5 := Lib.hid hm5
    have d4 := hm4.cell
    have d5 := hm5.cell
    have HV := Lib.hid hv
    have HR := Lib.hid hrow
    clear hv hrow hm4 hm5
    have HYES := Lib.hid (abF_yes xs L pre x)
    have HNOX := Lib.hid (abF_no xs L pre x)
    have hs2 := hB.size
    generalize fget xs x.1 = pg at hxF c0 c1 HYES HNOX ⊢
    gi_wp2
    gi_loopw [15] (fun i' wr => ∃ i : Nat, i ≤ L ∧ i' = .int .i64 i ∧ Hid (abTo2 xs pg i = true) ∧ Below W.heap.size W wr) (fun i' _ => L - (intOf i').toNat)
    case atStart => exact ⟨0, Nat.zero_le _, rfl, Lib.hid rfl, Below.refl _ _⟩
    case round =>
      clear d4
      obtain ⟨i, hi', rfl, hkp, hM⟩ := hrel
      have d0 := kc hM c0
      have d1 := kc hM c1
      have d6 := kc hM d5
      by_cases hil : i < L
      · obtain ⟨g, rfl, h0, h1⟩ := hC.out i hil
        have e0 := kc hM ((hB.cell (p := ⟨g, i * 2, none⟩) (cell_lt h0)).trans h0)
        have e1 := kc hM ((hB.cell (p := ⟨g, i * 2 + 1, none⟩) (cell_lt h1)).trans h1)
        have lBX : BX < wr.heap.size := cell_lt d0
        have l5 : w.heap.size + 1 < wr.heap.size := cell_lt d6
        have KP := Lib.hid (fun W => areCommuting_p (HX.out i hil) hxF W)
        clear h0 h1
        cases hkr : comP (fget xs i) pg
        · rw [hkr] at KP
          have HNO := Lib.hid (HNOX.out (abTo2_no hil hkr))
          generalize fget xs i = pr at e0 e1 KP
          clear hkr hkp
          gi_wp2_with (refine ⟨trivial, ?_⟩; gi_at_call 76; refine (callsIn_wide.2 (KP.out _)).mono ?_; rintro e w5 ⟨rfl, hb5⟩)
          have hb' : Below W.heap.size W w5 := bthen (bthen hM (bnew _ _)) hb5
          refine ⟨(kotb hb').from _, keepV_of (hb'.mono hs2) lBs HG.out, ⟨v, ?_, ?_, trivial⟩, (hb'.block _ HM4.out.lt).trans HM4.out, (hb'.block _ HM5.out.lt).trans HM5.out, bthen hB hb'⟩
          · exact (hb'.block _ HV.out.lt).trans HV.out
          · rw [HNO.out]; exact OwnsF.below HR.out hb'
        · rw [hkr] at KP
          have HK2 : Hid (abTo2 xs pg (i + 1) = true) := Lib.hid (by rw [abTo2_succ, hkp.out, hkr]; rfl)
          generalize fget xs i = pr at e0 e1 KP
          clear hkr hkp
          gi_wp2_with (refine ⟨trivial, ?_⟩; gi_at_call 76; refine (callsIn_wide.2 (KP.out _)).mono ?_; rintro e w5 ⟨rfl, hb5⟩)
          go_roundw
          case rel => exact ⟨i + 1, by omega, by go_num, HK2, bthen (bthen hM (bnew _ _)) hb5⟩
          case measure => simp [intOf]; omega
      · have HIL : Hid (i = L) := Lib.hid (by omega)
        have HC : Hid (abF xs L (pre ++ [x]) = abF xs L pre ++ [pg]) := Lib.hid (HYES.out (by rw [← HIL.out]; exact hkp.out))
        have hv5 : Boxed wr (w.heap.size + 1 + 1) 52 v := (hM.block _ HV.out.lt).trans HV.out
        have HV5 := Lib.hid hv5
        have dv := hv5.cell
        have hrow5 : World.ownsRow _ _ _ _ _ _ _ := OwnsF.below HR.out hM
        have HM44 := Lib.hid (show Boxed wr w.heap.size 52 (.slice a L cap) from (hM.block _ HM4.out.lt).trans HM4.out)
        have HM55 := Lib.hid (show Boxed wr (w.heap.size + 1) 85 (.func (.func 76) #[] #[]) from (hM.block _ HM5.out.lt).trans HM5.out)
        have hB5 := bthen hB hM
        have hs5 : w.heap.size + 1 + 1 ≤ wr.heap.size := Nat.le_of_lt hv5.lt
        clear hv5 hkp
        generalize hlk : (abF xs L pre).length = q at hle hrow5
        have HLK := Lib.hid hlk
        clear hlk
        gi_wp2_with (gi_at_builtin; refine wpListIn_append_own _ rfl _ _ 52 rfl (w.heap.size + 1 + 1) 43 i0 (.agg #[.int .i64 0, .int .i64 0]) 2 16 Try.underlying52 hi hz0 hz1 hz2 rfl (by decide) _ _ _ rfl (hrow5.alloc _) ⟨wr.heap.size, 0, none⟩ 1 1 [.int .i64 pg.1, .int .i64 pg.2] rfl rfl (cell_two_new _ _ _ _) (one_cell_two _ _) (by unfold maxLen; omega) (by omega) (by simp; omega) ?_; intro v' w1 hown' hgrow _; have HAP := Lib.hid (Boxed.appended HV5.out (by decide) hrow5 hs5 (Nat.le_refl _) hown' hgrow); obtain ⟨g5, cap5, rfl⟩ := ownsRow_succ hown'; have HN4 := Lib.hid ((HM44.out.alloc _).kept hgrow (HM44.out.not_row (by decide) hrow5)); have HN5 := Lib.hid ((HM55.out.alloc _).kept hgrow (HM55.out.not_row (by decide) hrow5)); have e5 := HAP.out.1.cell; have z5 := HAP.out.1.frozen; clear hgrow)
        obtain ⟨a1, a2, a3, a4, a5⟩ := HAP.out
        have hm6 := HN4.out.other (B' := w.heap.size + 1 + 1) (by omega) (.slice (some ⟨g5, 0, none⟩) (q + 1) cap5)
        have hm7 := HN5.out.other (B' := w.heap.size + 1 + 1) (by omega) (.slice (some ⟨g5, 0, none⟩) (q + 1) cap5)
        refine ⟨((kotb hM).trans a4).from _, keepV_of ((hM.mono hs2).trans (a5.mono (by omega))) lBs HG.out, ⟨_, a2, ?_, trivial⟩, hm6, hm7, hB5.trans (a5.mono (by omega))⟩
        rw [HC.out, fcells_snoc, List.length_append, HLK.out]
        exact a3
  case done =>
    clear hbx hb4 hb5 hs0 hC0
    rintro D ys W hD rfl ⟨⟨v, hv, hrow, _⟩, _, _, hB⟩ hK
    have dv := hv.cell
    have HR := Lib.hid hrow
    clear hrow hv
    gi_wp2
    rw [Exit.noGoto_ret]
    refine ⟨by simp, .inl ⟨_, _, rfl, run_takeDeferred hK, ?_⟩⟩
    refine ⟨v, by simp [results, Try.results85, go_sem], v, rfl, ?_, hB.trans (belowK_b (w := w) (Nat.le_refl _) W D _ _ (by omega) hK rfl rfl)⟩
    exact OwnsF.mono (ownsRow_putObj HR.out _ hK rfl) (by omega)
  case stop =>
    rintro D c pre W _ _ h _
    exact h.elim
end Go.Proofs.Ytbdhlokbpbiijab

/- CM3:
  l10Commute of the model: the tables as lists of rows. -/
namespace Go.Proofs.Ytbdhlokbpbiijab
open Go.RowKit Go.Shelf
set_option linter.unusedVariables false
set_option linter.unusedSimpArgs false

/-- The row i of a table with rows of P numbers. -/
def rowT (t P i : Nat) : Nat := t / 2 ^ (i * P) % 2 ^ P
def rowsT (t P m : Nat) : List Nat := (List.range m).map fun i => rowT t P i
theorem rowsT_len (t P m : Nat) : (rowsT t P m).length = m := by simp [rowsT]
theorem rowT_lt (t P i : Nat) : rowT t P i < 2 ^ P := Nat.mod_lt _ (Nat.two_pow_pos P)
theorem rowsT_get (t P m i : Nat) (h : i < m) : (rowsT t P m)[i]?.getD 0 = rowT t P i := by simp [rowsT, h]
/-- The column k. -/
def colT (t P m k : Nat) : Nat := sumN (fun i => bitN t (i * P + k)) m
theorem rowT_bit (t P i k : Nat) (hk : k < P) : bitN (rowT t P i) k = bitN t (i * P + k) := by
  rw [bitN_testBit, bitN_testBit]
  unfold rowT
  rw [Nat.testBit_mod_two_pow, Nat.testBit_div_two_pow, Nat.add_comm k]
  simp [hk]
theorem rowP_sum (p : List Nat) (k : Nat) : rowP p k = sumN (fun i => bitN (p[i]?.getD 0) k) p.length := by
  have key : ∀ q : List Nat, rowP (q.reverse) k = sumN (fun i => bitN ((q.reverse)[i]?.getD 0) k) q.reverse.length := by
    intro q
    induction q with
    | nil => rfl
    | cons a q ih =>
      rw [List.reverse_cons, rowP_snoc, ih, List.length_append, List.length_singleton]
      show _ = sumN _ _ + _ * _
      congr 1
      · refine sumN_congr _ fun i hi => ?_
        rw [List.getElem?_append_left hi]
      · have e : (q.reverse ++ [a])[q.reverse.length]? = some a := by rw [List.getElem?_append_right (Nat.le_refl _), Nat.sub_self]; rfl
        show _ = bitN ((q.reverse ++ [a])[q.reverse.length]?.getD 0) k * _
        rw [e, bitN_testBit]
        rfl
  have := key p.reverse
  rwa [List.reverse_reverse] at this
theorem rowP_col (t P m k : Nat) (hk : k < P) : rowP (rowsT t P m) k = colT t P m k := by
  rw [rowP_sum, rowsT_len]
  refine sumN_congr _ fun i hi => ?_
  rw [rowsT_get t P m i hi, rowT_bit t P i k hk]
/-- What the model makes of a table. -/
def fstT (y t P m : Nat) : Nat := sumN (fun i => bitN y (rowT t P i)) m
def sndT (x t P m : Nat) : Nat := sumN (fun k => bitN x (colT t P m k)) P
theorem fst_is (y t P m : Nat) : rowS y (rowsT t P m) = fstT y t P m := by
  unfold rowS fstT
  rw [rowsT_len]
  exact sumN_congr _ fun i hi => by rw [rowsT_get t P m i hi]
theorem snd_is (x t P m : Nat) : tupV x (rowsT t P m) P = sndT x t P m := by
  unfold tupV sndT
  exact sumN_congr _ fun k hk => by rw [rowP_col t P m k hk]
def comT (x y m P t : Nat) : Bool := bitN x (fstT y t P m) == bitN y (sndT x t P m)
def commTo (x y m P j : Nat) : Bool := allLt j fun t => comT x y m P t
theorem commTo_succ (x y m P j : Nat) : commTo x y m P (j + 1) = (commTo x y m P j && comT x y m P j) := allLt_succ _ _

/-- The table of a list of rows. -/
def tabP (P : Nat) : List Nat → Nat
  | [] => 0
  | a :: q => a + 2 ^ P * tabP P q
theorem tab_lt {P : Nat} : ∀ (p : List Nat), (∀ a ∈ p, a < 2 ^ P) → tabP P p < 2 ^ (p.length * P)
  | [], _ => by simp [tabP]
  | a :: q, h => by
    have h1 := h a (by simp)
    have h2 := tab_lt q (fun b hb => h b (by simp [hb]))
    simp only [tabP, List.length_cons]
    rw [Nat.add_mul, Nat.one_mul, Nat.pow_add]
    have h3 : 2 ^ P * (tabP P q + 1) ≤ 2 ^ P * 2 ^ (q.length * P) := Nat.mul_le_mul_left _ h2
    rw [Nat.mul_add, Nat.mul_one] at h3
    rw [Nat.mul_comm (2 ^ (q.length * P))]
    omega
theorem rowT_zero {P a q : Nat} (h : a < 2 ^ P) : rowT (a + 2 ^ P * q) P 0 = a := by
  unfold rowT
  rw [Nat.zero_mul, Nat.pow_zero, Nat.div_one, Nat.add_mul_mod_self_left, Nat.mod_eq_of_lt h]
theorem rowT_succ {P a q : Nat} (h : a < 2 ^ P) (i : Nat) : rowT (a + 2 ^ P * q) P (i + 1) = rowT q P i := by
  unfold rowT
  rw [Nat.add_mul, Nat.one_mul, Nat.add_comm (i * P), Nat.pow_add, ← Nat.div_div_eq_div_mul, Nat.add_mul_div_left _ _ (Nat.two_pow_pos P), Nat.div_eq_of_lt h, Nat.zero_add]
theorem tab_rows {P : Nat} : ∀ (p : List Nat), (∀ a ∈ p, a < 2 ^ P) → rowsT (tabP P p) P p.length = p
  | [], _ => rfl
  | a :: q, h => by
    have h1 := h a (by simp)
    have h2 := tab_rows q (fun b hb => h b (by simp [hb]))
    unfold rowsT at h2 ⊢
    rw [List.length_cons, List.range_succ_eq_map, List.map_cons, List.map_map]
    simp only [tabP]
    rw [rowT_zero h1]
    congr 1
    exact (List.map_congr_left fun i hi => rowT_succ h1 i).trans h2
theorem comB_is (x y m P : Nat) : comB x y m P (2 ^ P) = commTo x y m P (2 ^ (m * P)) := by
  rw [Bool.eq_iff_iff]
  unfold comB commTo
  rw [List.all_eq_true, allLt_iff]
  have key : ∀ t, agL x y (rowsT t P m, tupV x (rowsT t P m) P) = comT x y m P t := fun t => by
    unfold agL comT
    rw [fst_is, snd_is]
  constructor
  · intro h t ht
    rw [← key]
    refine h _ (List.mem_map.2 ⟨rowsT t P m, allP_mem.2 ⟨rowsT_len t P m, fun a ha => ?_⟩, rfl⟩)
    simp only [rowsT, List.mem_map] at ha
    obtain ⟨i, _, rfl⟩ := ha
    exact List.mem_range.2 (rowT_lt t P i)
  · rintro h l hl
    obtain ⟨p, hp, rfl⟩ := List.mem_map.1 hl
    obtain ⟨h1, h2⟩ := allP_mem.1 hp
    have hb : ∀ a ∈ p, a < 2 ^ P := fun a ha => List.mem_range.1 (h2 a ha)
    have e := tab_rows p hb
    have := h (tabP P p) (by have := tab_lt p hb; rwa [h1] at this)
    rw [← key, ← h1, e] at this
    exact this
end Go.Proofs.Ytbdhlokbpbiijab

/- CM4:
  l10Commute of the model by contract. -/
namespace Go.Proofs.Ytbdhlokbpbiijab
open Go.RowKit Go.Shelf
set_option linter.unusedVariables false
set_option linter.unusedSimpArgs false

/-- The model's memory while it looks at tables: both functions' boxes. -/
structure ComM (w : World) (m x P y : Nat) (W : World) : Prop where
  f0 : W.cell? ⟨w.heap.size, 0, none⟩ = some (.int .i64 (m : Int))
  f1 : W.cell? ⟨w.heap.size, 1, none⟩ = some (.int .i64 (x : Int))
  g0 : W.cell? ⟨w.heap.size + 1, 0, none⟩ = some (.int .i64 (P : Int))
  g1 : W.cell? ⟨w.heap.size + 1, 1, none⟩ = some (.int .i64 (y : Int))
  b : Below w.heap.size w W
theorem ComM.below {w W W' : World} {m x P y : Nat} (h : ComM w m x P y W) (hb : Below W.heap.size W W') : ComM w m x P y W' := ⟨kc hb h.f0, kc hb h.f1, kc hb h.g0, kc hb h.g1, bthen h.b hb⟩
theorem ComM.drew {w W : World} {m x P y : Nat} (h : ComM w m x P y W) : ComM w m x P y W.drew := h.below (Below.refl _ _).drew

set_option maxHeartbeats 1000000 in
theorem l01Rows_pow (k T : Nat) (hk : k ≤ 40) (hT : T = 2 ^ k) (w : World) :
    Calls Try.prog 91 #[.int .i64 (k : Int)] w fun e w' => e = .returned (.int .i64 (T : Int)) ∧ w = w' := by
  have hu : IntKind.u64.wrap (k : Int) = (k : Int) := by simp [IntKind.wrap, IntKind.bits, IntKind.signed]; omega
  have hlt : T < 2 ^ 62 := by rw [hT]; exact Nat.pow_lt_pow_right (by decide) (by omega)
  have e : (2 : Int) ^ k = (T : Int) := by rw [hT]; push_cast; rfl
  have hv : wrap64 ((2 : Int) ^ k) = (T : Int) := by rw [e, w64]; exact wrap64_small (by omega) (by omega)
  have hv2 : IntKind.i64.wrap ((2 : Int) ^ k) = (T : Int) := by rw [e]; exact wrap64_small (by omega) (by omega)
  clear hlt e hT
  go_enter Try.func91, Try.ntmps91
  go_wp2
  go_ret
  exact ⟨by first | rfl | (rw [← hv]; rfl) | (rw [← hv2]; rfl), rfl⟩

theorem row_and (t s P q : Nat) (ht : t < 2 ^ 62) (hq : q = 2 ^ P - 1) (hP : P ≤ 4) : bits .and .i64 ((t : Int) / 2 ^ s) (q : Int) = ((t / 2 ^ s % 2 ^ P : Nat) : Int) := by
  have h16 : 2 ^ P ≤ 2 ^ 4 := Nat.pow_le_pow_right (by decide) hP
  rw [shr_nat, bits_and_i64 _ _ (Nat.lt_of_le_of_lt (Nat.div_le_self _ _) ht) (by omega), hq, Nat.and_two_pow_sub_one_eq_mod]

set_option maxRecDepth 100000 in
set_option maxHeartbeats 8000000 in
theorem l10Commute_any {x R m : Nat} (ok : FOk (m : Int) x R) (m4 : m ≤ 4) {y Q P : Nat} (okg : FOk (P : Int) y Q) (w : World) :
    Calls Try.prog 75 #[.agg #[.int .i64 m, .int .i64 x], .agg #[.int .i64 P, .int .i64 y]] w fun e w' => e = .returned (.bool (comB x y m P Q)) ∧ Below w.heap.size w w' := by
  have hQ : Q = 2 ^ P := by have := okg.he; simpa using this
  have P4 : P ≤ 4 := by have := okg.h4; omega
  have e0 : comB x y m P Q = commTo x y m P (2 ^ (m * P)) := by rw [hQ]; exact comB_is x y m P
  rw [e0]
  clear e0
  obtain ⟨T, hT⟩ : ∃ T, T = 2 ^ (m * P) := ⟨_, rfl⟩
  have hMP : m * P ≤ 16 := Nat.mul_le_mul m4 P4
  have T16 : T ≤ 65536 := by rw [hT]; exact Nat.pow_le_pow_right (by decide) hMP
  rw [← hT]
  obtain ⟨q, hq⟩ : ∃ q, q = 2 ^ P - 1 := ⟨_, rfl⟩
  have hQ0 := okg.r0
  have hQ16 := okg.r16
  have hqw : IntKind.i64.wrap ((Q : Int) - 1) = (q : Int) := by rw [show (Q : Int) - 1 = (q : Int) by omega]; exact wrap64_small (by omega) (by omega)
  have hmp : IntKind.i64.wrap ((m : Int) * (P : Int)) = ((m * P : Nat) : Int) := by rw [show (m : Int) * (P : Int) = ((m * P : Nat) : Int) by push_cast; rfl]; exact wrap64_small (by omega) (by omega)
  have RT := Lib.hid (fun W => l01Rows_pow (m * P) T (by omega) hT W)
  have RQ := Lib.hid (fun W => l01Rows_is okg.h0 okg.h4 okg.hR W)
  have HQ := Lib.hid hq
  have hox := ok.hx
  have hoy := okg.hx
  have HIP := Lib.hid (fun (i : Nat) (hi : i < m) => (show i * P + P ≤ 16 by
    have h1 : (i + 1) * P ≤ m * P := Nat.mul_le_mul_right P hi
    rw [Nat.add_mul, Nat.one_mul] at h1; omega))
  generalize m * P = M at hmp RT hMP
  clear hT hq hQ
  obtain ⟨W1, hW1⟩ : ∃ W1, (w.alloc (.cells #[.int .i64 m, .int .i64 x] 43)).alloc (.cells #[.int .i64 P, .int .i64 y] 43) = W1 := ⟨_, rfl⟩
  have hM : ComM w m x P y W1 := by
    rw [← hW1]
    exact ⟨by simp [go_sem], by simp [go_sem], by simp [go_sem], by simp [go_sem], balloc (bnew _ _) _⟩
  have a0 := hM.f0
  have a1 := hM.f1
  have b0 := hM.g0
  have b1 := hM.g1
  go_enter Try.func75, Try.ntmps75
  go_wp2
  go_quiet (fail)
  go_wp2
  clear a0 a1 b0 b1 hW1
  have hM2 : ComM w m x P y (W1.drewN nq) := hM.below (below_drewN (Below.refl _ _) _)
  clear hM
  go_loopw [7] (fun t' wr => ∃ t : Nat, t ≤ T ∧ t' = .int .i64 t ∧ Hid (commTo x y m P t = true) ∧ ComM w m x P y wr) (fun t' _ => T - (intOf t').toNat)
  case atStart => exact ⟨0, by omega, rfl, Lib.hid rfl, hM2⟩
  case round =>
    clear hM2
    obtain ⟨t, ht, rfl, hcm, hM⟩ := hrel
    obtain ⟨wo, rfl⟩ : ∃ wo : World, wo = wr := ⟨_, rfl⟩
    by_cases hlt : t < T
    · have HN := fun (h : comT x y m P t = true) => Lib.hid (show commTo x y m P (t + 1) = true by rw [commTo_succ, hcm.out, h]; rfl)
      have HF := fun (h : comT x y m P t = false) => Lib.hid (show commTo x y m P T = false by
        cases hc : commTo x y m P T
        · rfl
        · have := allLt_iff.1 hc t hlt
          rw [h] at this
          cases this)
      have HN2 := Lib.hid HN
      have HF2 := Lib.hid HF
      clear HN HF
      have ht62 : t < 2 ^ 62 := by omega
      go_wp2_with (go_at_call 91; with_reducible refine (RT.out _).mono ?_; rintro e w' ⟨rfl, rfl⟩)
      go_loopw [8, 10] (fun s' i' wr => ∃ i : Nat, i ≤ m ∧ i' = .int .i64 i ∧ s' = .int .i64 (sumN (fun i => bitN y (rowT t P i)) i : Int) ∧ ComM w m x P y wr) (fun _ i' _ => m - (intOf i').toNat)
      case atStart => exact ⟨0, by omega, rfl, rfl, hM⟩
      case round =>
        clear hM
        obtain ⟨i, hi, rfl, rfl, hM⟩ := hrel
        by_cases hli : i < m
        · have hs16 := HIP.out i hli
          have hip : IntKind.i64.wrap ((i : Int) * (P : Int)) = ((i * P : Nat) : Int) := by rw [show (i : Int) * (P : Int) = ((i * P : Nat) : Int) by push_cast; rfl]; exact wrap64_small (by omega) (by omega)
          have HR := row_and t (i * P) P q ht62 HQ.out P4
          have hrl := rowT_lt t P i
          have hr16 : rowT t P i < 62 := Nat.lt_of_lt_of_le hrl (Nat.le_trans (Nat.pow_le_pow_right (by decide) P4) (by decide))
          have OS := Lib.hid (or_sum (fun i => bitN y (rowT t P i)) i (by omega) (fun r _ => bitN_le _ _))
          have AT := Lib.hid (fun W => l01At_any (P : Int) y (rowT t P i) hoy hr16 W)
          have hu : IntKind.u64.wrap ((i * P : Nat) : Int) = ((i * P : Nat) : Int) := by simp only [IntKind.wrap, IntKind.bits, IntKind.signed]; simp; omega
          have hui : IntKind.u64.wrap (i : Int) = (i : Int) := by simp [IntKind.wrap, IntKind.bits, IntKind.signed]; omega
          change bits .and .i64 ((t : Int) / 2 ^ (i * P)) (q : Int) = (rowT t P i : Int) at HR
          have b0 := hM.g0
          have b1 := hM.g1
          have hbl := bitN_le y (rowT t P i)
          have HM := Lib.hid hM
          clear hrl hM
          generalize i * P = s at hip HR hu hs16
          generalize bitN y (rowT t P i) = vb at AT OS hbl
          generalize rowT t P i = rr at HR AT hr16
          go_wp2_with (first
            | (go_at_call 91; with_reducible refine (RQ.out _).mono ?_; rintro e w' ⟨rfl, rfl⟩)
            | (go_at_call 71; with_reducible refine (AT.out _).mono ?_; rintro e w2 ⟨rfl, hb2⟩; have hM2 := HM.out.below hb2))
          go_roundw
          case rel => exact ⟨i + 1, by omega, by go_num, by rw [← OS.out], hM2⟩
          case measure => simp [intOf]; omega
        · obtain rfl : i = m := by omega
          obtain ⟨F, hF⟩ : ∃ F, F = fstT y t P i := ⟨_, rfl⟩
          have hF2 : sumN (fun j => bitN y (rowT t P j)) i = F := by rw [hF]; rfl
          rw [hF2]
          have hFl : F < 16 := by
            rw [hF]
            exact Nat.lt_of_lt_of_le (sumN_lt _ _ (fun _ _ => bitN_le _ _)) (by exact Nat.pow_le_pow_right (by decide) m4)
          have HFD := Lib.hid hF
          clear hF hF2
          go_wp2
          obtain ⟨wi, rfl⟩ : ∃ wi : World, wi = wr := ⟨_, rfl⟩
          go_loopw [9, 12] (fun s' k' wr => ∃ k : Nat, k ≤ P ∧ k' = .int .i64 k ∧ s' = .int .i64 (sumN (fun k => bitN x (colT t P i k)) k : Int) ∧ ComM w i x P y wr) (fun _ k' _ => P - (intOf k').toNat)
          case atStart => exact ⟨0, by omega, rfl, rfl, hM⟩
          case round =>
            clear hM
            obtain ⟨k, hk, rfl, rfl, hM⟩ := hrel
            by_cases hlk : k < P
            · go_wp2
              go_loopw [13, 14] (fun c' j' wq => wq = wr ∧ ∃ j : Nat, j ≤ i ∧ j' = .int .i64 j ∧ c' = .int .i64 (sumN (fun j => bitN t (j * P + k)) j : Int)) (fun _ j' _ => i - (intOf j').toNat)
              case atStart => exact ⟨rfl, 0, by omega, rfl, rfl⟩
              case round =>
                obtain ⟨rfl, j, hj, rfl, rfl⟩ := hrel
                by_cases hlj : j < i
                · have hs16 := HIP.out j hlj
                  have hjp : IntKind.i64.wrap ((j : Int) * (P : Int)) = ((j * P : Nat) : Int) := by rw [show (j : Int) * (P : Int) = ((j * P : Nat) : Int) by push_cast; rfl]; exact wrap64_small (by omega) (by omega)
                  have hjk : IntKind.i64.wrap (((j * P : Nat) : Int) + (k : Int)) = ((j * P + k : Nat) : Int) := by rw [show ((j * P : Nat) : Int) + (k : Int) = ((j * P + k : Nat) : Int) by push_cast; rfl]; exact wrap64_small (by omega) (by omega)
                  have hu : IntKind.u64.wrap ((j * P + k : Nat) : Int) = ((j * P + k : Nat) : Int) := by simp only [IntKind.wrap, IntKind.bits, IntKind.signed]; simp; omega
                  have huj : IntKind.u64.wrap (j : Int) = (j : Int) := by simp [IntKind.wrap, IntKind.bits, IntKind.signed]; omega
                  have hs62 : j * P + k < 62 := by omega
                  have HD := digit_eq t (j * P + k) ht62
                  have OS := Lib.hid (or_sum (fun j => bitN t (j * P + k)) j (by omega) (fun r _ => bitN_le _ _))
                  have hbl := bitN_le t (j * P + k)
                  clear hs16
                  generalize bitN t (j * P + k) = vb at HD OS hbl
                  generalize j * P + k = s2 at hjk HD hu hs62
                  generalize j * P = s1 at hjp hjk
                  go_wp2
                  go_roundw
                  case rel => exact ⟨(by first | trivial | rfl), j + 1, by omega, by go_num, by rw [← OS.out]⟩
                  case measure => simp [intOf]; omega
                · obtain rfl : j = i := by omega
                  have hcl : sumN (fun i => bitN t (i * P + k)) j < 16 := Nat.lt_of_lt_of_le (sumN_lt _ _ (fun _ _ => bitN_le _ _)) (by exact Nat.pow_le_pow_right (by decide) m4)
                  have AT := Lib.hid (fun W => l01At_any (j : Int) x (sumN (fun i => bitN t (i * P + k)) j) hox (by omega) W)
                  have OS := Lib.hid (or_sum (fun k => bitN x (colT t P j k)) k (by omega) (fun r _ => bitN_le _ _))
                  have OE : Hid (bitN x (sumN (fun i => bitN t (i * P + k)) j) = bitN x (colT t P j k)) := Lib.hid rfl
                  have huk : IntKind.u64.wrap (k : Int) = (k : Int) := by simp [IntKind.wrap, IntKind.bits, IntKind.signed]; omega
                  have hbl := bitN_le x (sumN (fun i => bitN t (i * P + k)) j)
                  have a0 := hM.f0
                  have a1 := hM.f1
                  have HM := Lib.hid hM
                  rw [← OE.out] at OS
                  clear hM OE
                  generalize bitN x (sumN (fun i => bitN t (i * P + k)) j) = vb at AT OS hbl
                  generalize sumN (fun i => bitN t (i * P + k)) j = cc at AT hcl ⊢
                  go_wp2_with (go_at_call 71; with_reducible refine (AT.out _).mono ?_; rintro e w2 ⟨rfl, hb2⟩; have hM2 := HM.out.below hb2)
                  go_roundw
                  case rel => exact ⟨k + 1, by omega, by go_num, by rw [← OS.out], hM2⟩
                  case measure => simp [intOf]; omega
            · obtain rfl : k = P := by omega
              obtain ⟨S, hS⟩ : ∃ S, S = sndT x t k i := ⟨_, rfl⟩
              have hS2 : sumN (fun j => bitN x (colT t k i j)) k = S := by rw [hS]; rfl
              rw [hS2]
              have hSl : S < 16 := by
                rw [hS]
                exact Nat.lt_of_lt_of_le (sumN_lt _ _ (fun _ _ => bitN_le _ _)) (by exact Nat.pow_le_pow_right (by decide) P4)
              have AF := Lib.hid (fun W => l01At_any (i : Int) x F hox (by omega) W)
              have AG := Lib.hid (fun W => l01At_any (k : Int) y S hoy (by omega) W)
              have HC : Hid (comT x y i k t = (bitN x F == bitN y S)) := Lib.hid (by unfold comT; rw [← HFD.out, ← hS])
              clear hS hS2
              generalize bitN x F = v1 at AF HC
              generalize bitN y S = v2 at AG HC
              have a0 := hM.f0
              have a1 := hM.f1
              have b0 := hM.g0
              have b1 := hM.g1
              by_cases hv : v1 = v2
              · have hne : ((v1 : Int) != (v2 : Int)) = false := by simp [hv]
                have HX := HN2.out (by rw [HC.out]; simp [hv])
                clear hv HC
                go_wp2
                go_region_held3 (fun w' => (((w'.cell? ⟨w.heap.size, 0, none⟩ = some (.int .i64 i) ∧ w'.cell? ⟨w.heap.size, 1, none⟩ = some (.int .i64 x)) ∧ (w'.cell? ⟨w.heap.size + 1, 0, none⟩ = some (.int .i64 k) ∧ w'.cell? ⟨w.heap.size + 1, 1, none⟩ = some (.int .i64 y))) ∧ Below w.heap.size w w')) (first | exact ⟨⟨⟨a0, a1⟩, ⟨b0, b1⟩⟩, hM.b.drew⟩ | assumption | exact step_heldF hb1 (by assumption))
                  (first
                    | (go_at_call 71; with_reducible refine (AG.out _).mono ?_; rintro e w' ⟨rfl, hb1⟩)
                    | (go_at_call 71; with_reducible refine (AF.out _).mono ?_; rintro e w' ⟨rfl, hb1⟩))
                obtain ⟨⟨⟨y0, y1⟩, ⟨z0, z1⟩⟩, hB9⟩ := (‹((_ ∧ _) ∧ (_ ∧ _)) ∧ Below _ _ _›)
                go_wp2
                go_roundw
                case rel => exact ⟨t + 1, by omega, by go_num, HX, ⟨y0, y1, z0, z1, hB9⟩⟩
                case measure => simp [intOf]; omega
              · have hne : ((v1 : Int) != (v2 : Int)) = true := by simp; omega
                have HX := HF2.out (by rw [HC.out]; simp [hv])
                clear hv HC
                go_wp2
                go_region_held3 (fun w' => (((w'.cell? ⟨w.heap.size, 0, none⟩ = some (.int .i64 i) ∧ w'.cell? ⟨w.heap.size, 1, none⟩ = some (.int .i64 x)) ∧ (w'.cell? ⟨w.heap.size + 1, 0, none⟩ = some (.int .i64 k) ∧ w'.cell? ⟨w.heap.size + 1, 1, none⟩ = some (.int .i64 y))) ∧ Below w.heap.size w w')) (first | exact ⟨⟨⟨a0, a1⟩, ⟨b0, b1⟩⟩, hM.b.drew⟩ | assumption | exact step_heldF hb1 (by assumption))
                  (first
                    | (go_at_call 71; with_reducible refine (AG.out _).mono ?_; rintro e w' ⟨rfl, hb1⟩)
                    | (go_at_call 71; with_reducible refine (AF.out _).mono ?_; rintro e w' ⟨rfl, hb1⟩))
                obtain ⟨⟨⟨y0, y1⟩, ⟨z0, z1⟩⟩, hB9⟩ := (‹((_ ∧ _) ∧ (_ ∧ _)) ∧ Below _ _ _›)
                go_wp2
                go_ret
                exact ⟨by rw [HX.out]; rfl, hB9⟩
    · obtain rfl : t = T := by omega
      have H1 := hcm.out
      go_wp2_with (go_at_call 91; with_reducible refine (RT.out _).mono ?_; rintro e w' ⟨rfl, rfl⟩)
      go_ret
      exact ⟨by rw [H1]; rfl, hM.b⟩
end Go.Proofs.Ytbdhlokbpbiijab

/- AB3:
  IsAbelian in both packages. -/
namespace Go.Proofs.Ytbdhlokbpbiijab
open Go.RowKit Go.Shelf
set_option linter.unusedVariables false
set_option linter.unusedSimpArgs false

/- commuting goes both ways -/
/-- The columns of a list of rows. -/
def colsL (p : List Nat) (P : Nat) : List Nat := (List.range P).map fun k => rowP p k
theorem colsL_len (p : List Nat) (P : Nat) : (colsL p P).length = P := by simp [colsL]
theorem colsL_get (p : List Nat) {P k : Nat} (h : k < P) : (colsL p P)[k]?.getD 0 = rowP p k := by simp [colsL, h]
theorem rowS_cols (x : Nat) (p : List Nat) (P : Nat) : rowS x (colsL p P) = tupV x p P := by
  unfold rowS tupV
  rw [colsL_len]
  exact sumN_congr _ fun k hk => by rw [colsL_get p hk]
theorem rowP_bit (p : List Nat) (k i : Nat) (h : i < p.length) : bitN (rowP p k) i = bitN (p[i]?.getD 0) k := by
  rw [rowP_sum]
  exact bitN_sum _ _ (fun _ _ => bitN_le _ _) i h
theorem rowP_cols {p : List Nat} {P i : Nat} (h : i < p.length) (hb : p[i]?.getD 0 < 2 ^ P) : rowP (colsL p P) i = p[i]?.getD 0 := by
  rw [rowP_sum, colsL_len]
  rw [sumN_congr (v := fun k => bitN ((colsL p P)[k]?.getD 0) i) (u := bitN (p[i]?.getD 0)) P fun k hk => by rw [colsL_get p hk]; exact rowP_bit p k i h]
  rw [sumN_bits, Nat.mod_eq_of_lt hb]
theorem tupV_cols (y : Nat) {p : List Nat} {P : Nat} (hb : ∀ a ∈ p, a < 2 ^ P) : tupV y (colsL p P) p.length = rowS y p := by
  unfold tupV rowS
  exact sumN_congr _ fun i hi => by rw [rowP_cols hi (by rw [List.getElem?_eq_getElem hi]; exact hb _ (List.getElem_mem hi))]
theorem com_half {x y m P : Nat} (h : comB y x P m (2 ^ m) = true) : comB x y m P (2 ^ P) = true := by
  unfold comB at h ⊢
  rw [List.all_eq_true] at h ⊢
  intro l hl
  obtain ⟨p, hp, rfl⟩ := List.mem_map.1 hl
  obtain ⟨h1, h2⟩ := allP_mem.1 hp
  have hb : ∀ a ∈ p, a < 2 ^ P := fun a ha => List.mem_range.1 (h2 a ha)
  have hq : colsL p P ∈ allP (List.range (2 ^ m)) P := allP_mem.2 ⟨colsL_len p P, fun a ha => by
    simp only [colsL, List.mem_map] at ha
    obtain ⟨k, _, rfl⟩ := ha
    rw [← h1]
    exact List.mem_range.2 (rowP_lt p k)⟩
  have := h _ (List.mem_map.2 ⟨_, hq, rfl⟩)
  unfold agL at this ⊢
  dsimp only at this ⊢
  rw [rowS_cols, ← h1, tupV_cols y hb] at this
  rw [Bool.eq_iff_iff] at this ⊢
  simp only [beq_iff_eq, iff_true] at this ⊢
  exact this.symm
theorem comP_symm (p q : Int × Int) : comP p q = comP q p := by
  unfold comP
  rw [Bool.eq_iff_iff]
  exact ⟨com_half, com_half⟩

/-- All functions of a list commute. -/
def abIn (xs : List (Int × Int)) (i k : Nat) : Bool := allLt k fun j => comP (fget xs i) (fget xs j)
def abB (xs : List (Int × Int)) (L : Nat) : Bool := allLt L fun i => abIn xs i (i + 1)
theorem abIn_succ (xs : List (Int × Int)) (i k : Nat) : abIn xs i (k + 1) = (abIn xs i k && comP (fget xs i) (fget xs k)) := allLt_succ _ _
theorem abB_succ (xs : List (Int × Int)) (L : Nat) : abB xs (L + 1) = (abB xs L && abIn xs L (L + 1)) := allLt_succ _ _
theorem abB_iff {xs : List (Int × Int)} {L : Nat} : abB xs L = true ↔ ∀ i, i < L → ∀ k, k < L → comP (fget xs i) (fget xs k) = true := by
  unfold abB abIn
  rw [allLt_iff]
  constructor
  · intro h i hi k hk
    rcases Nat.lt_or_ge i k with c | c
    · rw [comP_symm]
      exact allLt_iff.1 (h k hk) i (by omega)
    · exact allLt_iff.1 (h i hi) k (by omega)
  · intro h i hi
    rw [allLt_iff]
    exact fun k hk => h i hi k (by omega)
theorem abB_no {xs : List (Int × Int)} {i k L : Nat} (hi : i < L) (hk : k ≤ i) (h : comP (fget xs i) (fget xs k) = false) : abB xs L = false := by
  cases hc : abB xs L
  · rfl
  · have := abB_iff.1 hc i hi k (by omega)
    rw [h] at this
    cases this
theorem rowsUp_all {L : Nat} (x : Row L) : x ∈ rowsUp L L := by
  unfold rowsUp
  rw [List.mem_filterMap]
  exact ⟨x.1, List.mem_range.2 x.2, by simp [x.2]⟩
theorem abF_is (xs : List (Int × Int)) (L : Nat) : decide ((abF xs L (rowsUp L L)).length = L) = abB xs L := by
  rw [Bool.eq_iff_iff, decide_eq_true_iff, abB_iff]
  unfold abF
  rw [List.length_map]
  have hl := rowsUp_len (Nat.le_refl L)
  constructor
  · intro h i hi k hk
    have h2 := List.filter_eq_self.1 (List.filter_sublist.eq_of_length (h.trans hl.symm)) ⟨k, hk⟩ (rowsUp_all _)
    exact allLt_iff.1 h2 i hi
  · intro h
    have e : (rowsUp L L).filter (fun x => abTo2 xs (fget xs x.1) L) = rowsUp L L := List.filter_eq_self.2 fun x _ => allLt_iff.2 fun i hi => h i hi x.1 x.2
    rw [e]
    exact hl

theorem codeL_two {xs : List (Int × Int)} (h : codeL xs = 0) : (∀ j, j < xs.length → isF (fget xs j).1 (fget xs j).2 = true) ∧ xs.length ≤ 8 := by
  unfold codeL at h
  cases hA : allTo xs xs.length
  · rw [hA] at h; cases h
  · rw [hA, if_pos rfl] at h
    refine ⟨fun j hj => allTo_get hA j hj, ?_⟩
    apply Decidable.byContradiction
    intro h8
    rw [if_pos (by omega)] at h
    cases h
theorem cellsV_of {base : Nat} {W : World} {s : Value} {xs : List (Int × Int)} (h : OwnsF W base s xs) : ∃ a cap, s = .slice a xs.length cap ∧ Hid (CellsV a xs.length xs W) := by
  obtain ⟨a, cap, rfl, hrow⟩ := h.cells
  refine ⟨a, cap, rfl, Lib.hid fun j hj => ?_⟩
  rcases hrow with h0 | ⟨g, e, hg, hc⟩
  · omega
  · obtain ⟨c0, c1⟩ := hc.out j hj
    exact ⟨g, e, c0, c1⟩

set_option maxRecDepth 100000 in
set_option maxHeartbeats 2000000 in
theorem implIsAbelian_no {base : Nat} {s : Value} {xs : List (Int × Int)} (hl : xs.length ≤ 1048576) {c : Int} (hc : codeL xs = c) (hz : (c != 0) = true) (w : World) (h : OwnsF w base s xs) :
    Calls Try.prog 44 #[s] w fun e w' => e = .returned (.tuple #[.bool false, .int .i64 c]) ∧ Below w.heap.size w w' := by
  have LC := Lib.hid (listCode_any hl w h hc)
  obtain ⟨a, cap, rfl, _⟩ := cellsV_of h
  clear h hc hl
  generalize xs.length = L at LC ⊢
  go_enter Try.func44, Try.ntmps44
  go_wp2_with (go_at_call 79; refine LC.out.mono ?_; rintro e w2 ⟨rfl, hb2⟩)
  go_ret2
  exact ⟨rfl, hb2⟩
set_option maxRecDepth 100000 in
set_option maxHeartbeats 2000000 in
theorem specIsAbelian_no {base : Nat} {s : Value} {xs : List (Int × Int)} (hl : xs.length ≤ 1048576) {c : Int} (hc : codeL xs = c) (hz : (c != 0) = true) (w : World) (h : OwnsF w base s xs) :
    Calls Try.prog 43 #[s] w fun e w' => e = .returned (.tuple #[.bool false, .int .i64 c]) ∧ Below w.heap.size w w' := by
  have LC := Lib.hid (l02Code_any hl w h hc)
  obtain ⟨a, cap, rfl, _⟩ := cellsV_of h
  clear h hc hl
  generalize xs.length = L at LC ⊢
  go_enter Try.func43, Try.ntmps43
  go_wp2_with (go_at_call 77; refine LC.out.mono ?_; rintro e w2 ⟨rfl, hb2⟩)
  go_ret2
  exact ⟨rfl, hb2⟩
set_option maxRecDepth 100000 in
set_option maxHeartbeats 2000000 in
theorem implIsAbelian_yes {base : Nat} {s : Value} {xs : List (Int × Int)} (hc : codeL xs = 0) (w : World) (h : OwnsF w base s xs) :
    Calls Try.prog 44 #[s] w fun e w' => e = .returned (.tuple #[.bool (abB xs xs.length), .int .i64 0]) ∧ Below w.heap.size w w' := by
  obtain ⟨hx, h8⟩ := codeL_two hc
  have LC := Lib.hid (listCode_any (by omega) w h hc)
  rw [← abF_is]
  obtain ⟨a, cap, rfl, hC⟩ := cellsV_of h
  clear h hc
  generalize xs.length = L at LC hC hx h8 ⊢
  have CA := Lib.hid (fun (W : World) (Bs : Nat) hs (hC' : Hid (CellsV a L xs W)) => centraliserAmong_any h8 hx Bs cap a W hs hC')
  have HD := Lib.hid (show decide ((abF xs L (rowsUp L L)).length = L) = (((abF xs L (rowsUp L L)).length : Int) == (L : Int)) by rw [Bool.eq_iff_iff]; simp; omega)
  clear hx
  go_enter Try.func44, Try.ntmps44
  go_wp2_with (first
    | (go_at_call 79; refine LC.out.mono ?_; rintro e w2 ⟨rfl, hb2⟩)
    | (go_at_call 86; refine (Values_any _ _ _ _).mono ?_; rintro e w' ⟨rfl, rfl⟩; have hs2 := (show (w2.alloc (.cells #[.slice a L cap] 52)).cell? ⟨w2.heap.size, 0, none⟩ = some (.slice a L cap) by simp [go_sem]); have hC2 := Lib.hid ((hC.out.below hb2).below (bnew w2 (.cells #[.slice a L cap] 52))))
    | (go_at_call 85; refine (CA.out _ _ hs2 hC2).mono ?_; rintro e w3 ⟨s3, rfl, o3, hb3⟩; obtain ⟨a3, cap3, rfl, _⟩ := cellsV_of o3; clear o3))
  go_ret2
  exact ⟨by rw [HD.out]; rfl, bthen (balloc hb2 _) hb3⟩

theorem l10Commute_p {p q : Int × Int} (hp : isF p.1 p.2 = true) (hq : isF q.1 q.2 = true) (w : World) :
    Calls Try.prog 75 #[.agg #[.int .i64 p.1, .int .i64 p.2], .agg #[.int .i64 q.1, .int .i64 q.2]] w fun e w' => e = .returned (.bool (comP p q)) ∧ Below w.heap.size w w' := by
  obtain ⟨n, b⟩ := p
  obtain ⟨n2, b2⟩ := q
  obtain ⟨x, R, rfl, ok⟩ := fok hp
  obtain ⟨y, Q, rfl, okg⟩ := fok hq
  obtain ⟨m, rfl⟩ : ∃ m : Nat, n = (m : Int) := Int.eq_ofNat_of_zero_le ok.h0
  obtain ⟨P, rfl⟩ : ∃ P : Nat, n2 = (P : Int) := Int.eq_ofNat_of_zero_le okg.h0
  have h := l10Commute_any ok (by have := ok.h4; omega) okg w
  have hQ : Q = 2 ^ P := by have := okg.he; simpa using this
  rw [hQ] at h
  exact h

set_option maxRecDepth 100000 in
set_option maxHeartbeats 4000000 in
theorem specIsAbelian_yes {base : Nat} {s : Value} {xs : List (Int × Int)} (hc : codeL xs = 0) (w : World) (h : OwnsF w base s xs) :
    Calls Try.prog 43 #[s] w fun e w' => e = .returned (.tuple #[.bool (abB xs xs.length), .int .i64 0]) ∧ Below w.heap.size w w' := by
  obtain ⟨hx, h8⟩ := codeL_two hc
  have LC := Lib.hid (l02Code_any (by omega) w h hc)
  obtain ⟨a, cap, rfl, hC⟩ := cellsV_of h
  clear h hc
  generalize xs.length = L at LC hC hx h8 ⊢
  have HX := Lib.hid hx
  clear hx
  go_enter Try.func43, Try.ntmps43
  go_wp2_with (go_at_call 77; refine LC.out.mono ?_; rintro e w2 ⟨rfl, hb2⟩)
  go_loopw [5] (fun i' wr => ∃ i : Nat, i ≤ L ∧ i' = .int .i64 i ∧ Hid (abB xs i = true) ∧ Below w.heap.size w wr) (fun i' _ => L - (intOf i').toNat)
  case atStart => exact ⟨0, Nat.zero_le _, rfl, Lib.hid rfl, hb2⟩
  case round =>
    obtain ⟨i, hi, rfl, hab, hB⟩ := hrel
    obtain ⟨wo, rfl⟩ : ∃ wo : World, wo = wr := ⟨_, rfl⟩
    by_cases hlt : i < L
    · go_wp2
      go_loopw [6] (fun k' wr => ∃ k : Nat, k ≤ i + 1 ∧ k' = .int .i64 k ∧ Hid (abIn xs i k = true) ∧ Below w.heap.size w wr) (fun k' _ => i + 1 - (intOf k').toNat)
      case atStart => exact ⟨0, Nat.zero_le _, rfl, Lib.hid rfl, hB⟩
      case round =>
        clear hB
        obtain ⟨k, hk, rfl, hin, hB⟩ := hrel
        by_cases hltk : k < i + 1
        · have hle : decide ((k : Int) ≤ (i : Int)) = true := decide_eq_true (by omega)
          have hle2 : decide (k ≤ i) = true := decide_eq_true (by omega)
          obtain ⟨g, rfl, u0, u1⟩ := hC.out i hlt
          obtain ⟨g', eg, v0, v1⟩ := hC.out k (by omega)
          cases eg
          have e0 := (hB.cell (p := ⟨g, i * 2, none⟩) (cell_lt u0)).trans u0
          have e1 := (hB.cell (p := ⟨g, i * 2 + 1, none⟩) (cell_lt u1)).trans u1
          have e2 := (hB.cell (p := ⟨g, k * 2, none⟩) (cell_lt v0)).trans v0
          have e3 := (hB.cell (p := ⟨g, k * 2 + 1, none⟩) (cell_lt v1)).trans v1
          have b1 : (i : Int) < (L : Int) := by omega
          have b2 : (k : Int) < (L : Int) := by omega
          have KP := Lib.hid (fun W => l10Commute_p (HX.out i hlt) (HX.out k (by omega)) W)
          have HNO := fun (h : comP (fget xs i) (fget xs k) = false) => Lib.hid (abB_no hlt (show k ≤ i by omega) h)
          have HYE := fun (h : comP (fget xs i) (fget xs k) = true) => Lib.hid (show abIn xs i (k + 1) = true by rw [abIn_succ, hin.out, h]; rfl)
          clear u0 u1 v0 v1 hin
          generalize fget xs i = pi at e0 e1 KP HNO HYE
          generalize fget xs k = pk at e2 e3 KP HNO HYE
          cases hcp : comP pi pk
          · rw [hcp] at KP
            have H := HNO hcp
            clear hcp HNO HYE
            go_wp2
            go_region_held3 (fun w' => (((w'.cell? ⟨g, i * 2, none⟩ = some (.int .i64 pi.1) ∧ w'.cell? ⟨g, i * 2 + 1, none⟩ = some (.int .i64 pi.2)) ∧ (w'.cell? ⟨g, k * 2, none⟩ = some (.int .i64 pk.1) ∧ w'.cell? ⟨g, k * 2 + 1, none⟩ = some (.int .i64 pk.2))) ∧ Below w.heap.size w w')) (first | exact ⟨⟨⟨e0, e1⟩, ⟨e2, e3⟩⟩, hB.drew⟩ | assumption | exact step_heldF hb1 (by assumption))
              (first
                | (go_at_call 75; refine (KP.out _).mono ?_; rintro e w' ⟨rfl, hb1⟩))
            go_wp2
            go_ret2
            exact ⟨by rw [H.out]; rfl, (‹_ ∧ Below _ _ _›).2⟩
          · rw [hcp] at KP
            have H := HYE hcp
            clear hcp HNO HYE
            go_wp2
            go_region_held3 (fun w' => (((w'.cell? ⟨g, i * 2, none⟩ = some (.int .i64 pi.1) ∧ w'.cell? ⟨g, i * 2 + 1, none⟩ = some (.int .i64 pi.2)) ∧ (w'.cell? ⟨g, k * 2, none⟩ = some (.int .i64 pk.1) ∧ w'.cell? ⟨g, k * 2 + 1, none⟩ = some (.int .i64 pk.2))) ∧ Below w.heap.size w w')) (first | exact ⟨⟨⟨e0, e1⟩, ⟨e2, e3⟩⟩, hB.drew⟩ | assumption | exact step_heldF hb1 (by assumption))
              (first
                | (go_at_call 75; refine (KP.out _).mono ?_; rintro e w' ⟨rfl, hb1⟩))
            go_wp2
            go_roundw
            case rel => exact ⟨k + 1, by omega, by go_num, H, (‹_ ∧ Below _ _ _›).2⟩
            case measure => simp [intOf]; omega
        · obtain rfl : k = i + 1 := by omega
          have hle : decide (((i + 1 : Nat) : Int) ≤ (i : Int)) = false := decide_eq_false (by omega)
          have hle2 : decide ((i : Int) + 1 ≤ (i : Int)) = false := decide_eq_false (by omega)
          have H := Lib.hid (show abB xs (i + 1) = true by rw [abB_succ, hab.out, hin.out]; rfl)
          go_wp2
          go_roundw
          case rel => exact ⟨i + 1, by omega, by go_num, H, hB⟩
          case measure => simp [intOf]; omega
    · obtain rfl : i = L := by omega
      have H := hab.out
      go_wp2
      go_ret2
      exact ⟨by rw [H]; rfl, hB⟩

theorem bothIsAbelian {xs : List (Int × Int)} (hl : xs.length ≤ 1048576) : ∃ (rx : Bool) (rc : Int),
    (∀ (base : Nat) (s : Value) (w : World), OwnsF w base s xs → Calls Try.prog 43 #[s] w fun e w' => e = .returned (.tuple #[.bool rx, .int .i64 rc]) ∧ Below w.heap.size w w') ∧
    (∀ (base : Nat) (s : Value) (w : World), OwnsF w base s xs → Calls Try.prog 44 #[s] w fun e w' => e = .returned (.tuple #[.bool rx, .int .i64 rc]) ∧ Below w.heap.size w w') := by
  by_cases hc : codeL xs = 0
  · exact ⟨_, _, fun _ _ w h => specIsAbelian_yes hc w h, fun _ _ w h => implIsAbelian_yes hc w h⟩
  · exact ⟨_, _, fun _ _ w h => specIsAbelian_no hl rfl (by simpa using hc) w h, fun _ _ w h => implIsAbelian_no hl rfl (by simpa using hc) w h⟩
end Go.Proofs.Ytbdhlokbpbiijab

/- FIsAbelian:
  The walk of the law on IsAbelian: both packages answer alike, and the list that came in is as it was. -/
namespace Go.Proofs.Ytbdhlokbpbiijab
open Go.RowKit
set_option linter.unusedVariables false

set_option maxRecDepth 100000 in
set_option maxHeartbeats 4000000 in
theorem fnExactIsAbelian_walk (a0 : Option Addr) (len0 cap0 : Nat) (z0 : List (Int × Int)) (w : World) (hr0 : IsRowF w a0 len0 z0) :
    Calls Try.prog 11 #[.slice a0 len0 cap0] w fun e w' => e = .returned (.bool true) ∧ Below w.heap.size w w' := by
  by_cases hle : len0 ≤ 1048576
  · have hxl : z0.length ≤ 1048576 := by rw [hr0.1]; exact hle
    obtain ⟨rx, rc, c1, c2⟩ := bothIsAbelian hxl 
    have C1 := Lib.hid c1
    have C2 := Lib.hid c2
    have HR := Lib.hid hr0
    have HX := Lib.hid hxl
    clear c1 c2 hr0 hxl
    obtain ⟨W1, hW1⟩ : ∃ W1, w = W1 := ⟨_, rfl⟩
    have hN : Below w.heap.size w W1 := by rw [← hW1]; exact Below.refl _ _
    go_enter Try.func11, Try.ntmps11
    go_wp2_with fail
    clear hW1
    refine (szFuncS_ok a0 len0 cap0 hle _).mono ?_
    rintro e w' ⟨rfl, rfl⟩
    go_wp2_with fail
    have hs_O1 := hN.size
    go_wp2_with fail
    refine (toFuncS_any HR.out hle _ hN).mono ?_
    rintro e w2 ⟨s1, rfl, o, hb⟩
    have O1 := Lib.hid o
    clear o
    replace hN := bthen hN hb
    clear hb
    go_wp2_with fail
    refine (C1.out _ _ _ O1.out).mono ?_
    rintro e w3 ⟨rfl, hb⟩
    replace hN := bthen hN hb
    replace O1 := Lib.hid (O1.out.below hb)
    clear hb
    clear O1
    go_wp2_with fail
    have hs_O2 := hN.size
    go_wp2_with fail
    refine (toFuncS_any HR.out hle _ hN).mono ?_
    rintro e w4 ⟨s2, rfl, o, hb⟩
    have O2 := Lib.hid o
    clear o
    replace hN := bthen hN hb
    clear hb
    go_wp2_with fail
    refine (C2.out _ _ _ O2.out).mono ?_
    rintro e w5 ⟨rfl, hb⟩
    replace hN := bthen hN hb
    replace O2 := Lib.hid (O2.out.below hb)
    clear hb
    go_wp2_with fail
    have lt_O2_O3 := Lib.hid O2.out.lt
    have hs_O3 := hN.size
    go_wp2_with fail
    refine (toFuncS_any HR.out hle _ hN).mono ?_
    rintro e w6 ⟨s3, rfl, o, hb⟩
    have O3 := Lib.hid o
    clear o
    replace hN := bthen hN hb
    replace O2 := Lib.hid (O2.out.below hb)
    clear hb
    go_wp2_with fail
    refine (eqFuncS_same (by have := HX.out; omega) _ O2.out O3.out).mono ?_
    rintro e w7 ⟨rfl, hb⟩
    replace hN := bthen hN hb
    replace O2 := Lib.hid (O2.out.below hb)
    replace O3 := Lib.hid (O3.out.below hb)
    clear hb
    clear O3
    go_wp2
    go_ret
    exact ⟨rfl, hN⟩
  · have hlim := hr0.2.1
    clear hr0
    obtain ⟨W1, hW1⟩ : ∃ W1, w = W1 := ⟨_, rfl⟩
    have hN : Below w.heap.size w W1 := by rw [← hW1]; exact Below.refl _ _
    go_enter Try.func11, Try.ntmps11
    go_wp2_with (go_at_call 36; refine (szFuncS_over a0 len0 cap0 (by omega) hlim _).mono ?_; rintro e w' ⟨rfl, rfl⟩)
    go_ret
    exact ⟨rfl, hN⟩
end Go.Proofs.Ytbdhlokbpbiijab
