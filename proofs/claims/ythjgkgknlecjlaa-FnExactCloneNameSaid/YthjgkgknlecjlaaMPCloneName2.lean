/-
  The texts CN16, U1, U2, U3, CN17, Q4, CN18, CN19, MO12, CN4, I1, I2, J1, J0, CN20, CN21, CN22, H0, FCloneName in one.
-/
import Derived.Test.YthjgkgknlecjlaaMPCloneName1
import Derived.Laws.IdiomStrings
import Derived.Laws.Concat
import Derived.OwnWalkIn
import Derived.Deep.AppendLies
import Derived.Deep.QuietTactic

/- CN16:
  The first line that fits a list with given traits. -/
namespace Go.Proofs.Ythjgkgknlecjlaa
open Go.RowKit Go.Shelf
set_option linter.unusedVariables false
set_option linter.unusedSimpArgs false

def fitJ (cm d0 d1 j : Nat) : Bool := fitB cm d0 d1 (lnK j) (lnT j)
def ixN (cm d0 d1 : Nat) : Nat := ((List.range 38).find? (fitJ cm d0 d1)).getD 37
theorem fit_last (cm d0 d1 : Nat) : fitJ cm d0 d1 37 = true := rfl
theorem ln_small : ∀ j < 38, lnK j ≤ 2 ∧ (∀ t ∈ lnT j, t < 8) ∧ (lnT j).length ≤ 1000 := by decide
theorem ix_at {cm d0 d1 i : Nat} (hi : i < 38) (hb : ∀ j, j < i → fitJ cm d0 d1 j = false) (h : fitJ cm d0 d1 i = true) : ixN cm d0 d1 = i := by
  have : (List.range 38).find? (fitJ cm d0 d1) = some i := by
    rw [List.find?_range_eq_some]
    exact ⟨h, List.mem_range.2 hi, fun j hj => by rw [hb j hj]; rfl⟩
  unfold ixN
  rw [this]
  rfl
theorem ix_spec (cm d0 d1 : Nat) : ixN cm d0 d1 < 38 ∧ fitJ cm d0 d1 (ixN cm d0 d1) = true ∧ ∀ j, j < ixN cm d0 d1 → fitJ cm d0 d1 j = false := by
  unfold ixN
  cases hf : (List.range 38).find? (fitJ cm d0 d1) with
  | none =>
    rw [List.find?_eq_none] at hf
    exact absurd (fit_last cm d0 d1) (hf 37 (by decide))
  | some i =>
    rw [List.find?_range_eq_some] at hf
    obtain ⟨h1, h2, h3⟩ := hf
    exact ⟨List.mem_range.1 h2, h1, fun j hj => by simpa using h3 j hj⟩

set_option maxRecDepth 100000 in
set_option maxHeartbeats 4000000 in
theorem indexLine_any (cm d0 d1 : Nat) (hcm : cm < 256) (h0 : d0 ≤ 9) (h1 : d1 ≤ 9) (B : Nat) (w : World) (hL : LinesM w B) :
    Calls Try.prog 90 #[.slice (some ⟨B, 0, none⟩) 38 38, .func (.func 91) #[trV cm d0 d1 9] #[]] w fun e w' => e = .returned (.int .i64 (ixN cm d0 d1 : Int)) ∧ Below w.heap.size w w' := by
  have HF := Lib.hid (fun j (hj : j < 38) (b g : ByteArray) tv W (hT : TestsM W tv (lnT j)) => fit_any cm d0 d1 hcm h0 h1 b g (lnK j) (ln_small j hj).1 tv (lnT j) (ln_small j hj).2.1 (ln_small j hj).2.2 W hT)
  have HX : Hid (∀ i, i < 38 → (∀ j, j < i → fitJ cm d0 d1 j = false) → fitJ cm d0 d1 i = true → ixN cm d0 d1 = i) := Lib.hid fun i hi hb h => ix_at hi hb h
  have HLAST := Lib.hid (fit_last cm d0 d1)
  have HL := Lib.hid hL
  have eg := enters_of Try.func91 (by kernel_rfl) rfl
  generalize ixN cm d0 d1 = ix at HX ⊢
  unfold trV at HF ⊢
  rw [show (((9 : Nat)) : Int) = 9 from rfl] at HF ⊢
  go_enter Try.func90, Try.ntmps90
  go_wp2
  go_loopw [8] (fun i' wr => ∃ i : Nat, i ≤ 38 ∧ i' = .int .i64 i ∧ Hid (∀ j, j < i → fitJ cm d0 d1 j = false) ∧ Below w.heap.size w wr) (fun i' _ => 38 - (intOf i').toNat)
  case atStart => exact ⟨0, Nat.zero_le _, rfl, Lib.hid (fun j hj => absurd hj (Nat.not_lt_zero _)), Below.refl _ _⟩
  case round =>
    obtain ⟨i, hi, rfl, HI, hN⟩ := hrel
    by_cases hlt : i < 38
    · obtain ⟨tv, c0, c1, c2, c3, hT⟩ := HL.out.2 i hlt
      have q0 := kc hN c0
      have q1 := kc hN c1
      have q2 := kc hN c2
      have q3 := kc hN c3
      have hq := HF.out i hlt (lnB i) (lnG i) tv wr (hT.below hN)
      rw [show fitB cm d0 d1 (lnK i) (lnT i) = fitJ cm d0 d1 i from rfl] at hq
      have HC := Lib.hid hq
      clear hq hT c0 c1 c2 c3
      generalize lnB i = b at q0 HC
      generalize lnG i = g at q3 HC
      generalize lnK i = k at q1 HC
      cases hfj : fitJ cm d0 d1 i
      · have HI2 : Hid (∀ j, j < i + 1 → fitJ cm d0 d1 j = false) := Lib.hid fun j hj => by
          by_cases e : j = i
          · rw [e]; exact hfj
          · exact HI.out j (by omega)
        rw [hfj] at HC
        clear hfj
        go_wp2_with (go_at_call 91; refine HC.out.mono ?_; rintro e w4 ⟨rfl, hb4⟩)
        go_roundw
        case rel => exact ⟨i + 1, by omega, by go_num, HI2, bthen hN hb4⟩
        case measure => simp [intOf]; omega
      · have HE := Lib.hid (HX.out i hlt HI.out hfj)
        rw [hfj] at HC
        clear hfj
        go_wp2_with (go_at_call 91; refine HC.out.mono ?_; rintro e w4 ⟨rfl, hb4⟩)
        go_ret
        exact ⟨by rw [HE.out]; rfl, bthen hN hb4⟩
    · have := HI.out 37 (by omega)
      rw [HLAST.out] at this
      cases this
end Go.Proofs.Ythjgkgknlecjlaa

/- U1:
  Digits as texts. -/
namespace Go.Proofs.Ythjgkgknlecjlaa
open Go.RowKit
set_option linter.unusedVariables false

/-- The byte of a digit. -/
def dgB (d : Nat) : UInt8 := UInt8.ofNat (48 + d)

theorem dgB_nat (d : Nat) (hd : d < 200) : (dgB d).toNat = 48 + d := by
  unfold dgB
  rw [UInt8.toNat_ofNat']
  exact Nat.mod_eq_of_lt (by omega)

set_option maxRecDepth 100000 in
set_option maxHeartbeats 2000000 in
theorem l01Dec_any (d : Nat) (hd : d < 10) (w : World) :
    Calls Try.prog 113 #[.int .i64 (d : Int)] w fun e w' => e = .returned (.string ⟨#[dgB d]⟩) ∧ Below w.heap.size w w' := by
  have hcv := run_convert_bytes_back (P := Try.prog) (w.alloc (.cells #[.int .u8 (48 + (d : Int))] 5)) 110 9 5 ⟨w.heap.size, 0, none⟩ 1 [dgB d] Try.underlying110 Try.underlying5 Try.underlying9 (fun j hj => by
    obtain rfl : j = 0 := by simpa using hj
    have := dgB_nat d (by omega)
    simp [go_sem, Addr.add, this])
  simp only [List.length_cons, List.length_nil, Nat.zero_add] at hcv
  go_enter Try.func113, Try.ntmps113
  go_wp2_with fail
  go_ret
  exact ⟨rfl, bnew _ _⟩
end Go.Proofs.Ythjgkgknlecjlaa

/- U2:
  The texts of functions in the model. -/
namespace Go.Proofs.Ythjgkgknlecjlaa
open Go.RowKit
set_option linter.unusedVariables false

/-- The bytes of a text, with the values of the first k rows. -/
def txtL (n x k : Nat) : List UInt8 := dgB n :: 58 :: (List.range k).map fun r => dgB (bitN x r)
theorem txtL_succ (n x k : Nat) : txtL n x (k + 1) = txtL n x k ++ [dgB (bitN x k)] := by simp [txtL, List.range_succ]
theorem txtL_len (n x k : Nat) : (txtL n x k).length = k + 2 := by simp [txtL]
def txtS (n x k : Nat) : ByteArray := ⟨(txtL n x k).toArray⟩
theorem txtS_size (n x k : Nat) : (txtS n x k).size = k + 2 := by show ((txtL n x k).toArray).size = _; rw [List.size_toArray, txtL_len]
theorem txtS_zero (n x : Nat) : ((⟨#[dgB n]⟩ : ByteArray) ++ ⟨#[58]⟩) = txtS n x 0 := by rw [ByteArray.mk_append_mk]; rfl
theorem txtS_app (n x k : Nat) : (txtS n x k ++ (⟨#[dgB (bitN x k)]⟩ : ByteArray)) = txtS n x (k + 1) := by unfold txtS; rw [ByteArray.mk_append_mk, txtL_succ]
theorem txtS_succ (n x k : Nat) : (⟨(txtS n x k).data ++ #[dgB (bitN x k)]⟩ : ByteArray) = txtS n x (k + 1) := by
  unfold txtS
  rw [txtL_succ]
  simp

end Go.Proofs.Ythjgkgknlecjlaa

/- U3:
  FuncText in both packages. -/
namespace Go.Proofs.Ythjgkgknlecjlaa
open Go.RowKit Go.Shelf
set_option linter.unusedVariables false
attribute [local go_sem] Oper.semAt_some

theorem infoU8 : (Try.prog.info? 5).map (fun i => (i.zero, i.size, i.bytes)) = some (some (.int .u8 0), 1, 1) := by kernel_rfl

/-- .. of the rows handed out. -/
def txtF {R : Nat} (n x : Nat) (pre : List (Row R)) : List UInt8 := dgB n :: 58 :: pre.map fun r => dgB (bitN x r.1)
def bvals (l : List UInt8) : List Value := l.map fun b => .int .u8 (b.toNat : Int)
theorem bvals_snoc (l : List UInt8) (b : UInt8) : bvals (l ++ [b]) = bvals l ++ [.int .u8 (b.toNat : Int)] := by simp [bvals]
theorem txtF_snoc {R : Nat} (n x : Nat) (pre : List (Row R)) (r : Row R) : txtF n x (pre ++ [r]) = txtF n x pre ++ [dgB (bitN x r.1)] := by simp [txtF]
theorem txtF_len {R : Nat} (n x : Nat) (pre : List (Row R)) : (txtF n x pre).length = pre.length + 2 := by simp [txtF]
theorem txtF_upto {R : Nat} (hR : 0 < R) (n x k : Nat) (hk : k ≤ R) : txtF n x (upto hR k) = txtL n x k := by
  induction k with
  | zero => rfl
  | succ k ih => rw [upto_succ, txtF_snoc, ih (by omega), txtL_succ, rowAt_val hR (k := k) (by omega)]

theorem owns_below' {W W' : World} {base : Nat} {e : TypeId} {size : Nat} {v : Value} {n : Nat} {xs : List Value} (h : W.ownsRow base e size v n xs) (hb : Below W.heap.size W W') : W'.ownsRow base e size v n xs := owns_below h hb

/-- An append to a list of one's own, within a region that draws. -/
theorem stepIn_append_own {F : Fence} {n : Nat} {P : Program} (w : World) {ops : Array Oper} {o : Oper} {a : Act} {K : Act → World → Prop} {Q : Exit → Act → World → Prop} {E : Prop}
    (hg : o.guard = none) (s x : Operand) (t : TypeId) (hop : o.op = Op.call { callee := Callee.builtin Builtin.append, args := #[s, x], argTypes := #[t, t] })
    (base : Nat) (e : TypeId) (i : TypeInfo) (z : Value) (size bytes : Nat) (h1 : P.underlying t = some (.slice e)) (h2 : P.info? e = some i) (h3 : i.zero = some z) (h4 : i.size = size) (h5 : i.bytes = bytes) (h6 : z.cells.size = size) (h7 : 0 < size)
    (v : Value) (k : Nat) (xs : List Value) (hs : a.eval s = v) (hown : w.ownsRow base e size v k xs) (ad : Addr) (m c : Nat) (news : List Value) (hx : a.eval x = .slice (some ad) m c) (hn : news.length = m * size)
    (hc : ∀ j u, news[j]? = some u → w.cell? (ad.add j) = some u) (h1c : ∀ u ∈ news, u.oneCell' = true) (b1 : k + m ≤ maxLen) (b2 : (k + m) * bytes ≤ 140737488355328) (b3 : base ≤ w.heap.size)
    (hK : ∀ v' w', w'.ownsRow base e size v' (k + m) (xs ++ news) → w.grownBy w' v.ownBlock → K (a.put o.dst v') w') :
    if Region.wanted o (yielded ops a.tmps) = true then Oper.wpIn F n P o a w K Q else E := by
  rw [if_pos (by simp [Region.wanted, hg])]
  obtain ⟨v', w', hrun, r1, r2, _⟩ := run_append_own (P := P) w base t o.type e i z size bytes h1 h2 h3 h4 h5 h6 h7 v k xs hown ad m c news hn hc h1c b1 b2 b3
  unfold Oper.wpIn
  refine ⟨by simp [Oper.about, hop, resolve, Target.leads, Sem.run_pure], ?_⟩
  rw [Oper.semAt_plain F _ _ (by rw [hop]; intro c hc'; cases hc')]
  simp [execOp, hop, resolve, invoke, builtin, hs, hx, hrun, Result.andThen]
  exact hK _ _ r1 r2

theorem digitByte_any (d : Nat) (hd : d < 10) (w : World) :
    Calls Try.prog 93 #[.int .i64 (d : Int)] w fun e w' => e = .returned (.int .u8 ((dgB d).toNat : Int)) ∧ w = w' := by
  have hv := dgB_nat d (by omega)
  go_enter Try.func93, Try.ntmps93
  go_wp2
  go_ret
  exact ⟨by rw [hv]; push_cast; rfl, rfl⟩

end Go.Proofs.Ythjgkgknlecjlaa

/- CN17:
  Names of lists: the program. -/
namespace Go.Proofs.Ythjgkgknlecjlaa
open Go.RowKit Go.Shelf
set_option linter.unusedVariables false
set_option linter.unusedSimpArgs false

/-- A name with its degree. -/
def nmB (b : ByteArray) (d : Nat) : ByteArray := if d = 9 then b else (b ++ ⟨#[94]⟩) ++ ⟨#[UInt8.ofNat (48 + d)]⟩

set_option maxRecDepth 100000 in
set_option maxHeartbeats 2000000 in
theorem cloneName9_any (b g : ByteArray) (k : Int) (tv : Value) (hv : tv.oneCell' = true) (w : World) :
    Calls Try.prog 53 #[.agg #[.string b, .int .i64 k, tv, .string g, .int .i64 9]] w fun e w' => e = .returned (.string b) ∧ Below w.heap.size w w' := by
  go_enter Try.func53, Try.ntmps53
  go_wp2
  go_ret
  exact ⟨rfl, bnew _ _⟩
set_option maxRecDepth 100000 in
set_option maxHeartbeats 2000000 in
theorem cloneName2_any (b g : ByteArray) (hb : b.size ≤ 100) (k : Int) (tv : Value) (hv : tv.oneCell' = true) (w : World) :
    Calls Try.prog 53 #[.agg #[.string b, .int .i64 k, tv, .string g, .int .i64 2]] w fun e w' => e = .returned (.string (nmB b 2)) ∧ Below w.heap.size w w' := by
  obtain ⟨W1, hW1⟩ : ∃ W1, w.alloc (.cells #[.string b, .int .i64 k, tv, .string g, .int .i64 2] 67) = W1 := ⟨_, rfl⟩
  have p0 : W1.cell? ⟨w.heap.size, 0, none⟩ = some (.string b) := by rw [← hW1]; simp [go_sem]
  have p4 : W1.cell? ⟨w.heap.size, 4, none⟩ = some (.int .i64 2) := by rw [← hW1]; simp [go_sem]
  have hB : Below w.heap.size w W1 := by rw [← hW1]; exact bnew _ _
  have DB := Lib.hid (fun W => digitByte_any 2 (by decide) W)
  have s1 : ¬ 9223372036854775807 < b.size + 1 := by omega
  have s2 : ¬ 9223372036854775807 < b.size + 1 + 1 := by omega
  have hcv : ∀ (n : Int) W, (convert 5 9 (.int .u8 n)).run Try.prog W = .ok (.string (Utf8.encode n)) W := fun n W => run_convert_int_string W _ _ _ _ (by kernel_rfl) Try.underlying9
  have he : Utf8.encode 50 = ⟨#[50]⟩ := by rfl
  have hdg : (((dgB 2).toNat : Nat) : Int) = 50 := rfl
  rw [hdg] at DB
  clear hb
  go_enter Try.func53, Try.ntmps53
  go_wp2
  clear hW1
  go_quiet (first | (go_at_call 93; exact quiet_eq (DB.out _)))
  go_wp2
  go_ret
  exact ⟨rfl, below_drewN hB _⟩
set_option maxRecDepth 100000 in
set_option maxHeartbeats 2000000 in
theorem cloneName3_any (b g : ByteArray) (hb : b.size ≤ 100) (k : Int) (tv : Value) (hv : tv.oneCell' = true) (w : World) :
    Calls Try.prog 53 #[.agg #[.string b, .int .i64 k, tv, .string g, .int .i64 3]] w fun e w' => e = .returned (.string (nmB b 3)) ∧ Below w.heap.size w w' := by
  obtain ⟨W1, hW1⟩ : ∃ W1, w.alloc (.cells #[.string b, .int .i64 k, tv, .string g, .int .i64 3] 67) = W1 := ⟨_, rfl⟩
  have p0 : W1.cell? ⟨w.heap.size, 0, none⟩ = some (.string b) := by rw [← hW1]; simp [go_sem]
  have p4 : W1.cell? ⟨w.heap.size, 4, none⟩ = some (.int .i64 3) := by rw [← hW1]; simp [go_sem]
  have hB : Below w.heap.size w W1 := by rw [← hW1]; exact bnew _ _
  have DB := Lib.hid (fun W => digitByte_any 3 (by decide) W)
  have s1 : ¬ 9223372036854775807 < b.size + 1 := by omega
  have s2 : ¬ 9223372036854775807 < b.size + 1 + 1 := by omega
  have hcv : ∀ (n : Int) W, (convert 5 9 (.int .u8 n)).run Try.prog W = .ok (.string (Utf8.encode n)) W := fun n W => run_convert_int_string W _ _ _ _ (by kernel_rfl) Try.underlying9
  have he : Utf8.encode 51 = ⟨#[51]⟩ := by rfl
  have hdg : (((dgB 3).toNat : Nat) : Int) = 51 := rfl
  rw [hdg] at DB
  clear hb
  go_enter Try.func53, Try.ntmps53
  go_wp2
  clear hW1
  go_quiet (first | (go_at_call 93; exact quiet_eq (DB.out _)))
  go_wp2
  go_ret
  exact ⟨rfl, below_drewN hB _⟩
end Go.Proofs.Ythjgkgknlecjlaa

/- Q4:
  ClassesOf and IsComplete in both packages. -/
namespace Go.Proofs.Ythjgkgknlecjlaa
open Go.RowKit

/-- The classes below k in which a list is. -/
def clsL (xs : List (Int × Int)) (k : Nat) : List Int := ((List.range k).filter fun j => bitN (comTo xs xs.length) j == 1).map fun (j : Nat) => (j : Int)
theorem clsL_yes (xs : List (Int × Int)) (k : Nat) (h : (bitN (comTo xs xs.length) k == 1) = true) : clsL xs (k + 1) = clsL xs k ++ [(k : Int)] := by simp only [clsL, List.range_succ, List.filter_append, List.map_append]; simp [h]
theorem clsL_no (xs : List (Int × Int)) (k : Nat) (h : (bitN (comTo xs xs.length) k == 1) = false) : clsL xs (k + 1) = clsL xs k := by simp only [clsL, List.range_succ, List.filter_append, List.map_append]; simp [h]
theorem clsL_len (xs : List (Int × Int)) (k : Nat) : (clsL xs k).length ≤ k := by
  unfold clsL
  rw [List.length_map]
  exact Nat.le_trans (List.length_filter_le _ _) (by simp)

theorem codeL_ok {xs : List (Int × Int)} (h : codeL xs = 0) : AreF xs ∧ xs.length ≤ 8 := by
  unfold codeL at h
  cases hA : allTo xs xs.length
  · rw [hA] at h; cases h
  · rw [hA, if_pos rfl] at h
    refine ⟨fun j hj => allTo_get hA j hj, ?_⟩
    apply Decidable.byContradiction
    intro h8
    rw [if_pos (by omega)] at h
    cases h
theorem codeL_ne {xs : List (Int × Int)} (h : codeL xs ≠ 0) : (codeL xs != 0) = true := by simpa using h

/-- What commonClasses answers behind classSetsOf of the same list. -/
theorem common_of {xs : List (Int × Int)} (hl : xs.length ≤ 1048576) (hx : AreF xs) {b : Nat} {D : DU} {base : Nat} {s : Value} (w : World) (h : OwnsF w base s xs) (hown : w.ownsMap Try.prog 26 (plainElem Try.prog 2) b xs.length D) (hD : MapOk D xs xs.length) :
    Calls Try.prog 137 #[.map (some b), s] w fun e w' => e = .returned (.int .i64 (comTo xs xs.length : Int)) ∧ Below w.heap.size w w' :=
  commonClasses_any hl b _ _ D xs w h hown hD (fun i hi => ⟨hx i hi, hD.2.1 i hi⟩)

theorem l02Classes_whole {base : Nat} {s : Value} {xs : List (Int × Int)} (hl : xs.length ≤ 1048576) (hx : AreF xs) (h8 : xs.length ≤ 8) (w : World) (h : OwnsF w base s xs) :
    Calls Try.prog 82 #[s, .int .i64 (wholeN xs.length : Int)] w fun e w' => e = .returned (.int .i64 (comTo xs xs.length : Int)) ∧ Below w.heap.size w w' := by
  have := l02Classes_any hl hx (wholeN xs.length) (whole_int _ (by omega)).2.2 (by omega) w h
  rwa [part_whole xs h8] at this

set_option maxRecDepth 100000 in
set_option maxHeartbeats 1000000 in
theorem isComplete_any {base : Nat} {s : Value} {xs : List (Int × Int)} (b : Nat) (w : World) {c : Nat} (h : Calls Try.prog 137 #[.map (some b), s] w fun e w' => e = .returned (.int .i64 (c : Int)) ∧ Below w.heap.size w w') (hs : OwnsF w base s xs) :
    Calls Try.prog 99 #[.map (some b), s] w fun e w' => e = .returned (.bool ((c : Int) == 0)) ∧ Below w.heap.size w w' := by
  have LC := Lib.hid h
  obtain ⟨a, cap, rfl, _⟩ := hs.cells
  clear h hs
  go_enter Try.func99, Try.ntmps99
  go_wp2_with (go_at_call 137; refine (LC.out).mono ?_; rintro e w2 ⟨rfl, hb2⟩)
  go_ret
  exact ⟨rfl, hb2⟩

end Go.Proofs.Ythjgkgknlecjlaa

/- CN18:
  cloneNameOf and CloneName of the program. -/
namespace Go.Proofs.Ythjgkgknlecjlaa
open Go.RowKit Go.Shelf
set_option linter.unusedVariables false
set_option linter.unusedSimpArgs false

def degOk (d : Nat) : Prop := d = 0 ∨ d = 1 ∨ d = 2 ∨ d = 3 ∨ d = 9
theorem dgT_ok (xs : List (Int × Int)) (c k : Nat) : degOk (dgT xs c k) := by
  induction k with
  | zero => exact .inr (.inr (.inr (.inr rfl)))
  | succ k ih =>
    have h2 : degOk (dgP (fget xs k) c) := degT_cases _ _
    unfold degOk at *
    rw [dgT]
    omega
/-- The name of a list with given traits. -/
def nmC (cm d0 d1 : Nat) : ByteArray := nmB (lnB (ixN cm d0 d1)) (degK d0 d1 (lnK (ixN cm d0 d1)))
def nmL (xs : List (Int × Int)) : ByteArray := nmC (cmT xs xs.length) (dgT xs 0 xs.length) (dgT xs 1 xs.length)
theorem lnB_size : ∀ j < 38, (lnB j).size ≤ 100 := by decide
theorem cloneName_any (b g : ByteArray) (hb : b.size ≤ 100) (k : Int) (tv : Value) (hv : tv.oneCell' = true) (d : Nat) (hd : d = 2 ∨ d = 3 ∨ d = 9) (w : World) :
    Calls Try.prog 53 #[.agg #[.string b, .int .i64 k, tv, .string g, .int .i64 (d : Int)]] w fun e w' => e = .returned (.string (nmB b d)) ∧ Below w.heap.size w w' := by
  rcases hd with rfl | rfl | rfl
  · exact cloneName2_any b g hb k tv hv w
  · exact cloneName3_any b g hb k tv hv w
  · exact cloneName9_any b g k tv hv w
theorem TestsM.one {W : World} {tv : Value} {ts : List Nat} (h : TestsM W tv ts) : tv.oneCell' = true := by
  obtain ⟨a, cap, rfl, _⟩ := h
  rfl

theorem step8 {W w' w : World} {a0 a1 a2 a3 a4 a5 a6 a7 : Addr} {v0 v1 v2 v3 v4 v5 v6 v7 : Value} (hb : Below W.heap.size W w') (h : (((W.cell? a0 = some v0 ∧ W.cell? a1 = some v1) ∧ (W.cell? a2 = some v2 ∧ W.cell? a3 = some v3)) ∧ ((W.cell? a4 = some v4 ∧ W.cell? a5 = some v5) ∧ (W.cell? a6 = some v6 ∧ W.cell? a7 = some v7))) ∧ Below w.heap.size w W) :
    (((w'.cell? a0 = some v0 ∧ w'.cell? a1 = some v1) ∧ (w'.cell? a2 = some v2 ∧ w'.cell? a3 = some v3)) ∧ ((w'.cell? a4 = some v4 ∧ w'.cell? a5 = some v5) ∧ (w'.cell? a6 = some v6 ∧ w'.cell? a7 = some v7))) ∧ Below w.heap.size w w' :=
  ⟨⟨⟨⟨kc hb h.1.1.1.1, kc hb h.1.1.1.2⟩, ⟨kc hb h.1.1.2.1, kc hb h.1.1.2.2⟩⟩, ⟨⟨kc hb h.1.2.1.1, kc hb h.1.2.1.2⟩, ⟨kc hb h.1.2.2.1, kc hb h.1.2.2.2⟩⟩⟩, bthen h.2 hb⟩

set_option maxRecDepth 100000 in
set_option maxHeartbeats 8000000 in
theorem cloneNameOf_any {base : Nat} {s : Value} {xs : List (Int × Int)} (hl : xs.length ≤ 1048576) (hx : AreF xs) (w : World) (h : OwnsF w base s xs) :
    Calls Try.prog 49 #[s] w fun e w' => e = .returned (.string (nmL xs)) ∧ Below w.heap.size w w' := by
  have TR := Lib.hid (traitsOf_any hl hx w h)
  obtain ⟨a, cap, rfl, _⟩ := h.cells
  have hcm := cmT_lt xs xs.length
  have h0 := dgT_ok xs 0 xs.length
  have h1 := dgT_ok xs 1 xs.length
  unfold nmL
  generalize cmT xs xs.length = cm at TR hcm ⊢
  generalize dgT xs 0 xs.length = d0 at TR h0 ⊢
  generalize dgT xs 1 xs.length = d1 at TR h1 ⊢
  clear h hx
  generalize xs.length = L at TR hl ⊢
  have hd0 : d0 ≤ 9 := by unfold degOk at h0; omega
  have hd1 : d1 ≤ 9 := by unfold degOk at h1; omega
  have IL := Lib.hid (fun B W hL => indexLine_any cm d0 d1 hcm hd0 hd1 B W hL)
  have eg := enters_of Try.func91 (by kernel_rfl) rfl
  obtain ⟨hix, hfit, _⟩ := ix_spec cm d0 d1
  unfold nmC
  generalize ixN cm d0 d1 = ix at IL hix hfit ⊢
  have hk2 := (ln_small ix hix).1
  have hdk : degK d0 d1 (lnK ix) = 2 ∨ degK d0 d1 (lnK ix) = 3 ∨ degK d0 d1 (lnK ix) = 9 := by
    have h2 : 2 ≤ degK d0 d1 (lnK ix) := by
      unfold fitJ fitB at hfit
      rw [Bool.and_eq_true, decide_eq_true_eq] at hfit
      exact hfit.1
    unfold degOk at h0 h1
    unfold degK at h2 ⊢
    split
    · rename_i hk; rw [if_pos hk] at h2; omega
    · rename_i hk; rw [if_neg hk] at h2
      split
      · rename_i hk'; rw [if_pos hk'] at h2; omega
      · omega
  have hbs := lnB_size ix hix
  have NM := Lib.hid (fun (g : ByteArray) (k : Int) tv (hv : tv.oneCell' = true) W => cloneName_any (lnB ix) g hbs k tv hv _ hdk W)
  clear hfit h0 h1 hd0 hd1 hbs
  have hmf : ∀ (fn : Fn) (first cap : Array Value) (w : World), (Instr.makeFunc fn first cap).run Try.prog w = .ok (.func fn first cap) w := fun _ _ _ _ => rfl
  have NL := Lib.hid (fun W => nameLines_any W)
  have hin : decide ((ix : Int) < 38) = true := by simp; omega
  have hin2 : (ix : Int) < 38 := by omega
  unfold trV at TR IL
  rw [show (((9 : Nat)) : Int) = 9 from rfl] at TR IL
  have hkk : lnK ix = 0 ∨ lnK ix = 1 ∨ lnK ix = 2 := by omega
  rcases hkk with hk | hk | hk
  · -- degree kind 0
    rw [hk] at NM ⊢
    have hdv : degK d0 d1 0 = d0 := rfl
    rw [hdv] at NM ⊢
    generalize (cm : Int) = c at TR IL
    go_enter Try.func49, Try.ntmps49
    go_wp2_with (first
      | (go_at_call 88; refine TR.out.mono ?_; rintro e w1 ⟨rfl, hb1⟩)
      | (go_at_call 89; refine (NL.out _).mono ?_; rintro e w2 ⟨B, rfl, hL, hBl, hb2⟩; have t0 : w2.cell? ⟨w1.heap.size, 0, none⟩ = some (.int .i64 c) := kc hb2 (by simp [go_sem]); have t1 : w2.cell? ⟨w1.heap.size, 1, none⟩ = some (.int .i64 (d0 : Int)) := kc hb2 (by simp [go_sem]); have t2 : w2.cell? ⟨w1.heap.size, 2, none⟩ = some (.int .i64 (d1 : Int)) := kc hb2 (by simp [go_sem]); have t3 : w2.cell? ⟨w1.heap.size, 3, none⟩ = some (.int .i64 9) := kc hb2 (by simp [go_sem]))
      | (go_at_call 90; refine (IL.out B _ hL).mono ?_; rintro e w3 ⟨rfl, hb3⟩; have r0 := kc hb3 t0; have r1 := kc hb3 t1; have r2 := kc hb3 t2; have r3 := kc hb3 t3; clear t0 t1 t2 t3; have hL3 := hL.below hb3; obtain ⟨tv, c0, c1, c2, c3, hT⟩ := hL3.2 ix hix; obtain ⟨ta, tc, rfl, hTT⟩ := hT; clear hTT; rw [hk] at c1; generalize (lnT ix).length = Lt at c2; have HL3 := Lib.hid hL3; clear hL3))
    have hBB : Below w.heap.size w w3 := bthen (bthen (balloc hb1 _) hb2) hb3
    have NG := Lib.hid (fun W => NM.out (lnG ix) 0 (.slice ta Lt tc) rfl W)
    clear hL hb1 hb2 hb3 TR IL NL NM
    generalize hlb : lnB ix = b at c0 NG
    have HLB := Lib.hid hlb
    clear hlb
    generalize lnG ix = g at c3 NG
    obtain ⟨W4, hW4⟩ : ∃ W4, w3.alloc (.cells #[.string b, .int .i64 0, .slice ta Lt tc, .string g] 65) = W4 := ⟨_, rfl⟩
    have e0 : W4.cell? ⟨w3.heap.size, 0, none⟩ = some (.string b) := by rw [← hW4]; simp [go_sem]
    have e1 : W4.cell? ⟨w3.heap.size, 1, none⟩ = some (.int .i64 0) := by rw [← hW4]; simp [go_sem]
    have e2 : W4.cell? ⟨w3.heap.size, 2, none⟩ = some (.slice ta Lt tc) := by rw [← hW4]; simp [go_sem]
    have e3 : W4.cell? ⟨w3.heap.size, 3, none⟩ = some (.string g) := by rw [← hW4]; simp [go_sem]
    have b4 : Below w3.heap.size w3 W4 := by rw [← hW4]; exact bnew _ _
    have s0 := kc b4 r0
    have s1 := kc b4 r1
    have s2 := kc b4 r2
    have s3 := kc b4 r3
    have hB4 := bthen hBB b4
    rw [hW4]
    clear hW4 c0 c1 c2 c3 r0 r1 r2 r3 b4
    go_region_held3 (fun W => ((((W.cell? ⟨w3.heap.size, 0, none⟩ = some (.string b) ∧ W.cell? ⟨w3.heap.size, 1, none⟩ = some (.int .i64 0)) ∧ (W.cell? ⟨w3.heap.size, 2, none⟩ = some (.slice ta Lt tc) ∧ W.cell? ⟨w3.heap.size, 3, none⟩ = some (.string g))) ∧ ((W.cell? ⟨w1.heap.size, 0, none⟩ = some (.int .i64 c) ∧ W.cell? ⟨w1.heap.size, 1, none⟩ = some (.int .i64 (d0 : Int))) ∧ (W.cell? ⟨w1.heap.size, 2, none⟩ = some (.int .i64 (d1 : Int)) ∧ W.cell? ⟨w1.heap.size, 3, none⟩ = some (.int .i64 9)))) ∧ Below w.heap.size w W))
      (first | exact ⟨⟨⟨⟨e0, e1⟩, ⟨e2, e3⟩⟩, ⟨⟨s0, s1⟩, ⟨s2, s3⟩⟩⟩, hB4.drew⟩ | exact step8 hb5 (by assumption))
      (first
        | (go_at_call 53; refine (NG.out _).mono ?_; rintro e w5 ⟨rfl, hb5⟩))
    go_wp2
    go_ret
    exact ⟨by rw [HLB.out]; rfl, (‹_ ∧ Below _ _ _›).2⟩
  · -- degree kind 1
    rw [hk] at NM ⊢
    have hdv : degK d0 d1 1 = d1 := rfl
    rw [hdv] at NM ⊢
    generalize (cm : Int) = c at TR IL
    go_enter Try.func49, Try.ntmps49
    go_wp2_with (first
      | (go_at_call 88; refine TR.out.mono ?_; rintro e w1 ⟨rfl, hb1⟩)
      | (go_at_call 89; refine (NL.out _).mono ?_; rintro e w2 ⟨B, rfl, hL, hBl, hb2⟩; have t0 : w2.cell? ⟨w1.heap.size, 0, none⟩ = some (.int .i64 c) := kc hb2 (by simp [go_sem]); have t1 : w2.cell? ⟨w1.heap.size, 1, none⟩ = some (.int .i64 (d0 : Int)) := kc hb2 (by simp [go_sem]); have t2 : w2.cell? ⟨w1.heap.size, 2, none⟩ = some (.int .i64 (d1 : Int)) := kc hb2 (by simp [go_sem]); have t3 : w2.cell? ⟨w1.heap.size, 3, none⟩ = some (.int .i64 9) := kc hb2 (by simp [go_sem]))
      | (go_at_call 90; refine (IL.out B _ hL).mono ?_; rintro e w3 ⟨rfl, hb3⟩; have r0 := kc hb3 t0; have r1 := kc hb3 t1; have r2 := kc hb3 t2; have r3 := kc hb3 t3; clear t0 t1 t2 t3; have hL3 := hL.below hb3; obtain ⟨tv, c0, c1, c2, c3, hT⟩ := hL3.2 ix hix; obtain ⟨ta, tc, rfl, hTT⟩ := hT; clear hTT; rw [hk] at c1; generalize (lnT ix).length = Lt at c2; have HL3 := Lib.hid hL3; clear hL3))
    have hBB : Below w.heap.size w w3 := bthen (bthen (balloc hb1 _) hb2) hb3
    have NG := Lib.hid (fun W => NM.out (lnG ix) 1 (.slice ta Lt tc) rfl W)
    clear hL hb1 hb2 hb3 TR IL NL NM
    generalize hlb : lnB ix = b at c0 NG
    have HLB := Lib.hid hlb
    clear hlb
    generalize lnG ix = g at c3 NG
    obtain ⟨W4, hW4⟩ : ∃ W4, w3.alloc (.cells #[.string b, .int .i64 1, .slice ta Lt tc, .string g] 65) = W4 := ⟨_, rfl⟩
    have e0 : W4.cell? ⟨w3.heap.size, 0, none⟩ = some (.string b) := by rw [← hW4]; simp [go_sem]
    have e1 : W4.cell? ⟨w3.heap.size, 1, none⟩ = some (.int .i64 1) := by rw [← hW4]; simp [go_sem]
    have e2 : W4.cell? ⟨w3.heap.size, 2, none⟩ = some (.slice ta Lt tc) := by rw [← hW4]; simp [go_sem]
    have e3 : W4.cell? ⟨w3.heap.size, 3, none⟩ = some (.string g) := by rw [← hW4]; simp [go_sem]
    have b4 : Below w3.heap.size w3 W4 := by rw [← hW4]; exact bnew _ _
    have s0 := kc b4 r0
    have s1 := kc b4 r1
    have s2 := kc b4 r2
    have s3 := kc b4 r3
    have hB4 := bthen hBB b4
    rw [hW4]
    clear hW4 c0 c1 c2 c3 r0 r1 r2 r3 b4
    go_region_held3 (fun W => ((((W.cell? ⟨w3.heap.size, 0, none⟩ = some (.string b) ∧ W.cell? ⟨w3.heap.size, 1, none⟩ = some (.int .i64 1)) ∧ (W.cell? ⟨w3.heap.size, 2, none⟩ = some (.slice ta Lt tc) ∧ W.cell? ⟨w3.heap.size, 3, none⟩ = some (.string g))) ∧ ((W.cell? ⟨w1.heap.size, 0, none⟩ = some (.int .i64 c) ∧ W.cell? ⟨w1.heap.size, 1, none⟩ = some (.int .i64 (d0 : Int))) ∧ (W.cell? ⟨w1.heap.size, 2, none⟩ = some (.int .i64 (d1 : Int)) ∧ W.cell? ⟨w1.heap.size, 3, none⟩ = some (.int .i64 9)))) ∧ Below w.heap.size w W))
      (first | exact ⟨⟨⟨⟨e0, e1⟩, ⟨e2, e3⟩⟩, ⟨⟨s0, s1⟩, ⟨s2, s3⟩⟩⟩, hB4.drew⟩ | exact step8 hb5 (by assumption))
      (first
        | (go_at_call 53; refine (NG.out _).mono ?_; rintro e w5 ⟨rfl, hb5⟩))
    go_wp2
    go_ret
    exact ⟨by rw [HLB.out]; rfl, (‹_ ∧ Below _ _ _›).2⟩
  · -- degree kind 2
    rw [hk] at NM ⊢
    have hdv : degK d0 d1 2 = 9 := rfl
    rw [hdv] at NM ⊢
    generalize (cm : Int) = c at TR IL
    go_enter Try.func49, Try.ntmps49
    go_wp2_with (first
      | (go_at_call 88; refine TR.out.mono ?_; rintro e w1 ⟨rfl, hb1⟩)
      | (go_at_call 89; refine (NL.out _).mono ?_; rintro e w2 ⟨B, rfl, hL, hBl, hb2⟩; have t0 : w2.cell? ⟨w1.heap.size, 0, none⟩ = some (.int .i64 c) := kc hb2 (by simp [go_sem]); have t1 : w2.cell? ⟨w1.heap.size, 1, none⟩ = some (.int .i64 (d0 : Int)) := kc hb2 (by simp [go_sem]); have t2 : w2.cell? ⟨w1.heap.size, 2, none⟩ = some (.int .i64 (d1 : Int)) := kc hb2 (by simp [go_sem]); have t3 : w2.cell? ⟨w1.heap.size, 3, none⟩ = some (.int .i64 9) := kc hb2 (by simp [go_sem]))
      | (go_at_call 90; refine (IL.out B _ hL).mono ?_; rintro e w3 ⟨rfl, hb3⟩; have r0 := kc hb3 t0; have r1 := kc hb3 t1; have r2 := kc hb3 t2; have r3 := kc hb3 t3; clear t0 t1 t2 t3; have hL3 := hL.below hb3; obtain ⟨tv, c0, c1, c2, c3, hT⟩ := hL3.2 ix hix; obtain ⟨ta, tc, rfl, hTT⟩ := hT; clear hTT; rw [hk] at c1; generalize (lnT ix).length = Lt at c2; have HL3 := Lib.hid hL3; clear hL3))
    have hBB : Below w.heap.size w w3 := bthen (bthen (balloc hb1 _) hb2) hb3
    have NG := Lib.hid (fun W => NM.out (lnG ix) 2 (.slice ta Lt tc) rfl W)
    clear hL hb1 hb2 hb3 TR IL NL NM
    generalize hlb : lnB ix = b at c0 NG
    have HLB := Lib.hid hlb
    clear hlb
    generalize lnG ix = g at c3 NG
    obtain ⟨W4, hW4⟩ : ∃ W4, w3.alloc (.cells #[.string b, .int .i64 2, .slice ta Lt tc, .string g] 65) = W4 := ⟨_, rfl⟩
    have e0 : W4.cell? ⟨w3.heap.size, 0, none⟩ = some (.string b) := by rw [← hW4]; simp [go_sem]
    have e1 : W4.cell? ⟨w3.heap.size, 1, none⟩ = some (.int .i64 2) := by rw [← hW4]; simp [go_sem]
    have e2 : W4.cell? ⟨w3.heap.size, 2, none⟩ = some (.slice ta Lt tc) := by rw [← hW4]; simp [go_sem]
    have e3 : W4.cell? ⟨w3.heap.size, 3, none⟩ = some (.string g) := by rw [← hW4]; simp [go_sem]
    have b4 : Below w3.heap.size w3 W4 := by rw [← hW4]; exact bnew _ _
    have s0 := kc b4 r0
    have s1 := kc b4 r1
    have s2 := kc b4 r2
    have s3 := kc b4 r3
    have hB4 := bthen hBB b4
    rw [hW4]
    clear hW4 c0 c1 c2 c3 r0 r1 r2 r3 b4
    go_region_held3 (fun W => ((((W.cell? ⟨w3.heap.size, 0, none⟩ = some (.string b) ∧ W.cell? ⟨w3.heap.size, 1, none⟩ = some (.int .i64 2)) ∧ (W.cell? ⟨w3.heap.size, 2, none⟩ = some (.slice ta Lt tc) ∧ W.cell? ⟨w3.heap.size, 3, none⟩ = some (.string g))) ∧ ((W.cell? ⟨w1.heap.size, 0, none⟩ = some (.int .i64 c) ∧ W.cell? ⟨w1.heap.size, 1, none⟩ = some (.int .i64 (d0 : Int))) ∧ (W.cell? ⟨w1.heap.size, 2, none⟩ = some (.int .i64 (d1 : Int)) ∧ W.cell? ⟨w1.heap.size, 3, none⟩ = some (.int .i64 9)))) ∧ Below w.heap.size w W))
      (first | exact ⟨⟨⟨⟨e0, e1⟩, ⟨e2, e3⟩⟩, ⟨⟨s0, s1⟩, ⟨s2, s3⟩⟩⟩, hB4.drew⟩ | exact step8 hb5 (by assumption))
      (first
        | (go_at_call 53; refine (NG.out _).mono ?_; rintro e w5 ⟨rfl, hb5⟩))
    go_wp2
    go_ret
    exact ⟨by rw [HLB.out]; rfl, (‹_ ∧ Below _ _ _›).2⟩
set_option maxHeartbeats 1000000 in
theorem implCloneName_no {base : Nat} {s : Value} {xs : List (Int × Int)} (hl : xs.length ≤ 1048576) (hc : codeL xs ≠ 0) (w : World) (h : OwnsF w base s xs) :
    Calls Try.prog 22 #[s] w fun e w' => e = .returned (.tuple #[.string ⟨#[]⟩, .int .i64 (codeL xs)]) ∧ Below w.heap.size w w' := by
  have LC := Lib.hid (listCode_any hl w h rfl)
  have hne := codeL_ne hc
  obtain ⟨a, cap, rfl, _⟩ := h.cells
  clear h hc
  generalize codeL xs = c at LC hne ⊢
  generalize xs.length = L at *
  go_enter Try.func22, Try.ntmps22
  go_wp2_with (go_at_call 48; refine LC.out.mono ?_; rintro e w2 ⟨rfl, hb2⟩)
  exact bodyPost_ret (v := .tuple #[.string ⟨#[]⟩, .int .i64 c]) (by simp [results, Try.results22, go_sem]) rfl ⟨rfl, hb2⟩
set_option maxHeartbeats 1000000 in
theorem implCloneName_yes {base : Nat} {s : Value} {xs : List (Int × Int)} (hl : xs.length ≤ 1048576) (hc : codeL xs = 0) (w : World) (h : OwnsF w base s xs) :
    Calls Try.prog 22 #[s] w fun e w' => e = .returned (.tuple #[.string (nmL xs), .int .i64 0]) ∧ Below w.heap.size w w' := by
  have LC := Lib.hid (listCode_any hl w h hc)
  have CN := Lib.hid (fun W (hW : Below w.heap.size w W) => cloneNameOf_any hl (codeL_ok hc).1 W (h.below hW))
  obtain ⟨a, cap, rfl, _⟩ := h.cells
  clear h hc
  generalize nmL xs = nm at CN ⊢
  generalize xs.length = L at *
  go_enter Try.func22, Try.ntmps22
  go_wp2_with (first
    | (go_at_call 48; refine LC.out.mono ?_; rintro e w2 ⟨rfl, hb2⟩)
    | (go_at_call 49; refine (CN.out _ hb2).mono ?_; rintro e w3 ⟨rfl, hb3⟩))
  exact bodyPost_ret (v := .tuple #[.string nm, .int .i64 0]) (by simp [results, Try.results22, go_sem]) rfl ⟨rfl, bthen hb2 hb3⟩
end Go.Proofs.Ythjgkgknlecjlaa

/- CN19:
  Names of lists: the model's helpers, and the mathematics of both. -/
namespace Go.Proofs.Ythjgkgknlecjlaa
open Go.RowKit Go.Shelf
set_option linter.unusedVariables false
set_option linter.unusedSimpArgs false

def fourN (cl : Nat) (a b c d : ByteArray) : ByteArray := if cl % 4 = 3 then a else if cl % 4 = 1 then b else if cl % 4 = 2 then c else d
def kindN (k m : Bool) (a b c d : ByteArray) : ByteArray := if (k && m) = true then a else if m = true then b else if k = true then c else d
theorem and_three (c : Nat) (hc : c < 2 ^ 62) : bits .and .i64 (c : Int) 3 = ((c % 4 : Nat) : Int) := by
  have := and_int c 3 hc (by decide)
  rw [show ((3 : Nat) : Int) = 3 from rfl] at this
  rw [this, show (3 : Nat) = 2 ^ 2 - 1 from rfl, Nat.and_two_pow_sub_one_eq_mod]

set_option maxHeartbeats 2000000 in
theorem l08Four_any (c : Nat) (hc : c < 1000) (s3 s1 s2 s0 : ByteArray) (w : World) :
    Calls Try.prog 84 #[.int .i64 (c : Int), .string s3, .string s1, .string s2, .string s0] w fun e w' => e = .returned (.string (fourN c s3 s1 s2 s0)) ∧ w = w' := by
  have ha := and_three c (by omega)
  unfold fourN
  generalize (c : Int) = ci at ha ⊢
  rcases (by omega : c % 4 = 0 ∨ c % 4 = 1 ∨ c % 4 = 2 ∨ c % 4 = 3) with h | h | h | h
  · rw [h] at ha ⊢
    rw [show (((0 : Nat)) : Int) = 0 from rfl] at ha
    clear h hc
    go_enter Try.func84, Try.ntmps84
    go_wp2
    go_ret
    exact ⟨rfl, rfl⟩
  · rw [h] at ha ⊢
    rw [show (((1 : Nat)) : Int) = 1 from rfl] at ha
    clear h hc
    go_enter Try.func84, Try.ntmps84
    go_wp2
    go_ret
    exact ⟨rfl, rfl⟩
  · rw [h] at ha ⊢
    rw [show (((2 : Nat)) : Int) = 2 from rfl] at ha
    clear h hc
    go_enter Try.func84, Try.ntmps84
    go_wp2
    go_ret
    exact ⟨rfl, rfl⟩
  · rw [h] at ha ⊢
    rw [show (((3 : Nat)) : Int) = 3 from rfl] at ha
    clear h hc
    go_enter Try.func84, Try.ntmps84
    go_wp2
    go_ret
    exact ⟨rfl, rfl⟩

set_option maxHeartbeats 2000000 in
theorem l08Kind_any (k m : Bool) (s3 s1 s2 s0 : ByteArray) (w : World) :
    Calls Try.prog 86 #[.bool k, .bool m, .string s3, .string s1, .string s2, .string s0] w fun e w' => e = .returned (.string (kindN k m s3 s1 s2 s0)) ∧ w = w' := by
  cases k <;> cases m
  all_goals
    go_enter Try.func86, Try.ntmps86
    go_wp2
    go_ret
    exact ⟨rfl, rfl⟩

set_option maxHeartbeats 2000000 in
theorem l08Degrees9_any (b : ByteArray) (w : World) :
    Calls Try.prog 85 #[.string b, .int .i64 9] w fun e w' => e = .returned (.string b) ∧ Below w.heap.size w w' := by
  go_enter Try.func85, Try.ntmps85
  go_wp2
  go_ret
  exact ⟨rfl, Below.refl _ _⟩
set_option maxHeartbeats 2000000 in
theorem l08Degrees2_any (b : ByteArray) (hb : b.size ≤ 100) (w : World) :
    Calls Try.prog 85 #[.string b, .int .i64 2] w fun e w' => e = .returned (.string (nmB b 2)) ∧ Below w.heap.size w w' := by
  have s1 : ¬ 9223372036854775807 < b.size + 1 := by omega
  have s2 : ¬ 9223372036854775807 < b.size + 1 + 1 := by omega
  have DC := Lib.hid (fun W => l01Dec_any 2 (by decide) W)
  have hdg : dgB 2 = 50 := rfl
  rw [hdg] at DC
  rw [show (((2 : Nat)) : Int) = 2 from rfl] at DC
  clear hb hdg
  go_enter Try.func85, Try.ntmps85
  go_wp2_with (go_at_call 113; refine (DC.out _).mono ?_; rintro e w1 ⟨rfl, hb1⟩)
  go_ret
  exact ⟨rfl, hb1⟩
set_option maxHeartbeats 2000000 in
theorem l08Degrees3_any (b : ByteArray) (hb : b.size ≤ 100) (w : World) :
    Calls Try.prog 85 #[.string b, .int .i64 3] w fun e w' => e = .returned (.string (nmB b 3)) ∧ Below w.heap.size w w' := by
  have s1 : ¬ 9223372036854775807 < b.size + 1 := by omega
  have s2 : ¬ 9223372036854775807 < b.size + 1 + 1 := by omega
  have DC := Lib.hid (fun W => l01Dec_any 3 (by decide) W)
  have hdg : dgB 3 = 51 := rfl
  rw [hdg] at DC
  rw [show (((3 : Nat)) : Int) = 3 from rfl] at DC
  clear hb hdg
  go_enter Try.func85, Try.ntmps85
  go_wp2_with (go_at_call 113; refine (DC.out _).mono ?_; rintro e w1 ⟨rfl, hb1⟩)
  go_ret
  exact ⟨rfl, hb1⟩
theorem l08Degrees_any (b : ByteArray) (hb : b.size ≤ 100) (d : Nat) (hd : d = 2 ∨ d = 3 ∨ d = 9) (w : World) :
    Calls Try.prog 85 #[.string b, .int .i64 (d : Int)] w fun e w' => e = .returned (.string (nmB b d)) ∧ Below w.heap.size w w' := by
  rcases hd with rfl | rfl | rfl
  · exact l08Degrees2_any b hb w
  · exact l08Degrees3_any b hb w
  · exact l08Degrees9_any b w

/-- The name, as the model tells it: of the classes, of what all functions are, of both degrees. -/
def nmS (cl : Nat) (u d c : Bool) (z o : Nat) : ByteArray :=
  if (u && bitN cl 3 == 1) = true then fourN cl ⟨#[73, 50]⟩ ⟨#[73, 48]⟩ ⟨#[73, 49]⟩ ⟨#[73]⟩
  else if (u && bitN cl 2 == 1) = true then ⟨#[78, 50]⟩
  else if u = true then ⟨#[78]⟩
  else if d = true then fourN cl ⟨#[86, 50]⟩ ⟨#[86, 48]⟩ ⟨#[86, 49]⟩ ⟨#[86]⟩
  else if c = true then fourN cl ⟨#[69, 50]⟩ ⟨#[69, 48]⟩ ⟨#[69, 49]⟩ ⟨#[69]⟩
  else if (bitN cl 4 == 1 && decide (cl % 4 = 3)) = true then ⟨#[76, 50]⟩
  else if (bitN cl 4 == 1 && bitN cl 2 == 1) = true then ⟨#[76, 51]⟩
  else if (bitN cl 4 == 1) = true then fourN cl ⟨#[76, 50]⟩ ⟨#[76, 48]⟩ ⟨#[76, 49]⟩ ⟨#[76]⟩
  else if (bitN cl 2 == 1 && bitN cl 3 == 1) = true then ⟨#[68, 50]⟩
  else if (bitN cl 2 == 1 && bitN cl 0 == 1) = true then ⟨#[68, 49]⟩
  else if (bitN cl 2 == 1) = true then ⟨#[68]⟩
  else if 2 ≤ z then nmB (kindN (bitN cl 0 == 1) (bitN cl 3 == 1) ⟨#[83, 48, 48]⟩ ⟨#[83, 48, 49]⟩ ⟨#[83, 48, 50]⟩ ⟨#[83, 48]⟩) z
  else if 2 ≤ o then nmB (kindN (bitN cl 1 == 1) (bitN cl 3 == 1) ⟨#[83, 49, 48]⟩ ⟨#[83, 49, 49]⟩ ⟨#[83, 49, 50]⟩ ⟨#[83, 49]⟩) o
  else if (bitN cl 3 == 1) = true then fourN cl ⟨#[77, 50]⟩ ⟨#[77, 48]⟩ ⟨#[77, 49]⟩ ⟨#[77]⟩
  else fourN cl ⟨#[82, 50]⟩ ⟨#[82, 48]⟩ ⟨#[82, 49]⟩ ⟨#[66, 70]⟩
def nmSame (cl : Nat) (u d c : Bool) (z o : Nat) : Bool := (nmS cl u d c z o).data.toList == (nmC (cl + 32 * u.toNat + 64 * d.toNat + 128 * c.toNat) z o).data.toList
theorem nm_all : ∀ cl < 32, ∀ u d c : Bool, ∀ z ∈ [0, 1, 2, 3, 9], ∀ o ∈ [0, 1, 2, 3, 9], nmSame cl u d c z o = true := by decide +kernel
theorem nm_same {cl : Nat} (hc : cl < 32) (u d c : Bool) {z o : Nat} (hz : degOk z) (ho : degOk o) : nmS cl u d c z o = nmC (cl + 32 * u.toNat + 64 * d.toNat + 128 * c.toNat) z o := by
  have h := nm_all cl hc u d c z (by unfold degOk at hz; simp; omega) o (by unfold degOk at ho; simp; omega)
  unfold nmSame at h
  have h2 := eq_of_beq h
  apply ByteArray.ext
  exact Array.toList_inj.1 h2
end Go.Proofs.Ythjgkgknlecjlaa

/- MO12:
  FuncOfRows in both packages. -/
namespace Go.Proofs.Ythjgkgknlecjlaa
open Go.RowKit
set_option linter.unusedVariables false
set_option linter.unusedSimpArgs false

theorem rows_nat {R : Nat} {xs : List Int} (h : rowsB R xs = true) : ∃ l : List Nat, xs = nL l ∧ ∀ o ∈ l, o < R := by
  unfold rowsB at h
  rw [List.all_eq_true] at h
  have hb : ∀ v ∈ xs, 0 ≤ v ∧ v ≤ (R : Int) - 1 := fun v hv => by simpa [inB] using h v hv
  refine ⟨xs.map Int.toNat, ?_, fun o ho => ?_⟩
  · unfold nL
    rw [List.map_map]
    conv => lhs; rw [← List.map_id xs]
    refine List.map_congr_left fun v hv => ?_
    have := (hb v hv).1
    simp; omega
  · obtain ⟨v, hv, rfl⟩ := List.mem_map.1 ho
    have := hb v hv
    omega

theorem abTo_nat {r : Nat} {l : List Nat} {i : Nat} (hi : i < l.length) {b : Bool} (hb : inR r (l[i]?.getD 0) = b) : ((abTo r l (i + 1)).toNat : Int) = if b = true then 1 else ((abTo r l i).toNat : Int) := by
  rw [abTo_succ hi, hb]
  cases b <;> simp

/-- The boxes of the program's FuncOfRows: the list, the answer. -/
theorem forBox (s : Value) (w : World) : ∃ W1, (w.alloc (.cells #[s] 56)).alloc (.cells #[.int .i64 0, .int .i64 0] 26) = W1 ∧ W1.cell? ⟨w.heap.size, 0, none⟩ = some s ∧
    (W1.cell? ⟨w.heap.size + 1, 0, none⟩ = some (.int .i64 0) ∧ W1.cell? ⟨w.heap.size + 1, 1, none⟩ = some (.int .i64 0)) ∧ (W1.frozen? ⟨w.heap.size + 1, 0, none⟩ = false ∧ W1.frozen? ⟨w.heap.size + 1, 1, none⟩ = false) ∧ Below w.heap.size w W1 :=
  ⟨_, rfl, by simp [go_sem], ⟨by simp [go_sem], by simp [go_sem]⟩, ⟨by simp [go_sem], by simp [go_sem]⟩, balloc (bnew _ _) _⟩

end Go.Proofs.Ythjgkgknlecjlaa

/- CN4:
  Disjunctions, conjunctions, unary functions of the model. -/
namespace Go.Proofs.Ythjgkgknlecjlaa
open Go.RowKit Go.Shelf
set_option linter.unusedVariables false
set_option linter.unusedSimpArgs false

/-- How many of the first k places have the digit 1. -/
def hitN (pl : List Nat) (i k : Nat) : Nat := ((pl.take k).filter fun p => bitN i p == 1).length
theorem hitN_yes {pl : List Nat} {i k : Nat} (hk : k < pl.length) (h : bitN i (pl[k]?.getD 0) = 1) : hitN pl i (k + 1) = hitN pl i k + 1 := by
  unfold hitN
  rw [List.getElem?_eq_getElem hk] at h
  rw [List.take_succ_eq_append_getElem hk, List.filter_append, List.length_append]
  simp at h
  simp [h]
theorem hitN_no {pl : List Nat} {i k : Nat} (hk : k < pl.length) (h : bitN i (pl[k]?.getD 0) ≠ 1) : hitN pl i (k + 1) = hitN pl i k := by
  unfold hitN
  rw [List.getElem?_eq_getElem hk] at h
  rw [List.take_succ_eq_append_getElem hk, List.filter_append, List.length_append]
  simp at h
  simp [h]
theorem hitN_le (pl : List Nat) (i k : Nat) : hitN pl i k ≤ k := by
  unfold hitN
  exact Nat.le_trans (List.length_filter_le _ _) (by rw [List.length_take]; omega)
theorem places_lt {E n p : Nat} (h : p ∈ placesN E n) : p < n := by
  unfold placesN at h
  exact List.mem_range.1 (List.mem_filter.1 h).1


set_option maxRecDepth 100000 in
set_option maxHeartbeats 4000000 in
theorem l08Joined_false {n : Int} {x R : Nat} (ok : FOk n x R) (w : World) :
    Calls Try.prog 41 #[.agg #[.int .i64 n, .int .i64 (x : Int)], .bool false] w fun e w' => e = .returned (.bool (jnD n x R)) ∧ Below w.heap.size w w' := by
  have n0 := ok.h0
  have n4 := ok.h4
  have r16 := ok.r16
  have hx := ok.hx
  have ALL := Lib.hid (fun W => l01All_is ok.h0 ok.h4 ok.he W)
  have HC := Lib.hid (esN_const ok)
  have ha := allN_rows ok.he
  obtain ⟨W1, hW1⟩ : ∃ W1, w.alloc (.cells #[.int .i64 n, .int .i64 (x : Int)] 26) = W1 := ⟨_, rfl⟩
  have p0 : W1.cell? ⟨w.heap.size, 0, none⟩ = some (.int .i64 n) := by rw [← hW1]; simp [go_sem]
  have p1 : W1.cell? ⟨w.heap.size, 1, none⟩ = some (.int .i64 (x : Int)) := by rw [← hW1]; simp [go_sem]
  have hB : Below w.heap.size w W1 := by rw [← hW1]; exact bnew _ _
  by_cases hx0 : x = 0
  · have hj : jnD n x R = true := by unfold jnD; rw [HC.out.2 (.inl hx0)]; rfl
    rw [hj]
    have g0 : ((x : Int) == 0) = true := by simp [hx0]
    clear hj hx0 ha hx
    go_enter Try.func41, Try.ntmps41
    go_wp2
    clear hW1
    go_quiet (fail)
    go_wp2
    go_ret
    exact ⟨rfl, below_drewN hB _⟩
  have g0 : ((x : Int) == 0) = false := by simp only [beq_eq_false_iff_ne, ne_eq]; omega
  by_cases hxa : x = 2 ^ R - 1
  · have hj : jnD n x R = true := by unfold jnD; rw [HC.out.2 (.inr (by rw [ha, hxa]))]; rfl
    rw [hj]
    have g1 : ((x : Int) == ((2 ^ R - 1 : Nat) : Int)) = true := by simp [hxa]
    clear hj hx0 ha hx hxa
    generalize ((2 ^ R - 1 : Nat) : Int) = top at ALL g1
    go_enter Try.func41, Try.ntmps41
    go_wp2
    clear hW1
    go_quiet (first | (go_at_call 65; exact quiet_eq (ALL.out _)))
    go_wp2
    go_ret
    exact ⟨rfl, below_drewN hB _⟩
  have g1 : ((x : Int) == ((2 ^ R - 1 : Nat) : Int)) = false := by simp only [beq_eq_false_iff_ne, ne_eq]; omega
  have hE0 : esN n x ≠ 0 := fun h => by
    rcases HC.out.1 h with h | h
    · exact hx0 h
    · rw [ha] at h; exact hxa (by omega)
  have hj : jnD n x R = allLt R fun r => bitN x r == (r &&& esN n x != 0).toNat := by
    unfold jnD
    rw [show (esN n x == 0) = false by simp [hE0]]
    rfl
  rw [hj]
  have hEl := esN_lt n x
  have RWS := Lib.hid (fun W => l01Rows_is ok.h0 ok.h4 ok.hR W)
  have AT := Lib.hid (fun i (hi : i < R) W => l01At_any n x i ok.hx (by omega) W)
  have ESS := Lib.hid (fun W => l01Essential_any ok W)
  rw [essK_places] at ESS
  have HIT : Hid (∀ i, i < R → decide ((0 : Int) < (hitN (placesN (esN n x) n.toNat) i (placesN (esN n x) n.toNat).length : Int)) = (i &&& esN n x != 0)) := Lib.hid fun i hi => by
    have h1 := places_hit n.toNat (by omega) (esN n x) hEl i (by rw [← ok.he]; exact hi)
    have h2 := places_some n.toNat (by omega) (esN n x) hEl i (by rw [← ok.he]; exact hi)
    have h3 := places_len n.toNat (by omega) (esN n x) hEl
    have e : hitN (placesN (esN n x) n.toNat) i (placesN (esN n x) n.toNat).length = sizeN (i &&& esN n x) := by unfold hitN; rw [List.take_length]; exact h1
    rw [e, ← h2.1]; simp only [decide_eq_decide]; omega
  have HPL : Hid (∀ p ∈ placesN (esN n x) n.toNat, p < 4) := Lib.hid fun p hp => by have := places_lt hp; omega
  have hLl : (placesN (esN n x) n.toNat).length ≤ 4 := by
    rw [places_len n.toNat (by omega) (esN n x) hEl]; exact sizeN_le _
  generalize placesN (esN n x) n.toNat = pl at ESS HIT HPL hLl
  generalize ((2 ^ R - 1 : Nat) : Int) = top at ALL g1
  generalize esN n x = E at HIT ⊢
  obtain ⟨L, hL⟩ : ∃ L, pl.length = L := ⟨_, rfl⟩
  have HY : Hid (∀ i k, k < L → bitN i (pl[k]?.getD 0) = 1 → hitN pl i (k + 1) = hitN pl i k + 1) := Lib.hid fun i k hk h => hitN_yes (by omega) h
  have HNo : Hid (∀ i k, k < L → bitN i (pl[k]?.getD 0) ≠ 1 → hitN pl i (k + 1) = hitN pl i k) := Lib.hid fun i k hk h => hitN_no (by omega) h
  have HP4 : Hid (∀ k, k < L → pl[k]?.getD 0 < 4) := Lib.hid fun k hk => HPL.out _ (by rw [List.getElem?_eq_getElem (by omega)]; exact List.getElem_mem _)
  have HLL := Lib.hid hL
  rw [hL] at HIT hLl
  clear HC ha hx0 hxa hE0 hj hEl hx hL HPL
  go_enter Try.func41, Try.ntmps41
  go_wp2
  clear hW1
  go_quiet (first | (go_at_call 65; exact quiet_eq (ALL.out _)))
  go_wp2_with (go_at_call 44; refine (ESS.out _).mono ?_; rintro e w5 ⟨s, rfl, hown, hb1⟩; obtain ⟨a, cap, rfl, HL⟩ := owns_open hown; rw [HLL.out] at HL ⊢; clear hown)
  have hN5 : Below W1.heap.size W1 w5 := bthen (below_drewN (Below.refl _ _) nq) hb1
  have d0 := kc hN5 p0
  have d1 := kc hN5 p1
  have hB5 := bthen hB hN5
  clear hb1 hN5 p0 p1 hB g0 g1 ALL ESS
  go_loopw [6] (fun i' wr => ∃ i : Nat, i ≤ R ∧ i' = .int .i64 i ∧ Hid (∀ r, r < i → (bitN x r == (r &&& E != 0).toNat) = true) ∧ Below w5.heap.size w5 wr) (fun i' _ => R - (intOf i').toNat)
  case atStart => exact ⟨0, Nat.zero_le _, rfl, Lib.hid (fun r hr => absurd hr (Nat.not_lt_zero _)), Below.refl _ _⟩
  case round =>
    obtain ⟨i, hi, rfl, HI, hN⟩ := hrel
    by_cases hlt : i < R
    · obtain ⟨wo, rfl⟩ : ∃ wo : World, wo = wr := ⟨_, rfl⟩
      have q0 := kc hN d0
      have q1 := kc hN d1
      have HA := Lib.hid (AT.out i hlt)
      have HH := Lib.hid (HIT.out i hlt)
      go_wp2_with (go_at_call 66; refine (RWS.out _).mono ?_; rintro e w' ⟨rfl, rfl⟩)
      go_loopw [7, 8] (fun c k' wr => ∃ k : Nat, k ≤ L ∧ k' = .int .i64 k ∧ c = .int .i64 (hitN pl i k) ∧ wo = wr) (fun _ k' _ => L - (intOf k').toNat)
      case atStart => exact ⟨0, Nat.zero_le _, rfl, rfl, rfl⟩
      case round =>
        obtain ⟨k, hk, rfl, rfl, rfl⟩ := hrel
        by_cases hk2 : k < L
        · obtain ⟨g, rfl, hg, hc⟩ := HL.out k hk2
          have hu := kc hN hc
          have hp := HP4.out k hk2
          have HYk := Lib.hid (HY.out i k hk2)
          have HNk := Lib.hid (HNo.out i k hk2)
          have hle := hitN_le pl i k
          generalize pl[k]?.getD 0 = p at hu hp HYk HNk
          have eu : IntKind.u64.wrap (p : Int) = (p : Int) := by simp [IntKind.wrap, IntKind.bits, IntKind.signed]; omega
          have HD := Lib.hid (digit_eq i p (by omega))
          clear hc
          by_cases hb1 : bitN i p = 1
          · have HYq := Lib.hid (HYk.out hb1)
            have hd : (bits .and .i64 ((i : Int) / 2 ^ p) 1 == 1) = true := by rw [HD.out, hb1]; rfl
            clear hb1 HYk HNk
            go_wp2
            go_roundw
            case rel => exact ⟨k + 1, by omega, by go_num, by rw [HYq.out]; go_num, by first | exact True.intro | rfl⟩
            case measure => simp [intOf]; omega
          · have HNq := Lib.hid (HNk.out hb1)
            have hd : (bits .and .i64 ((i : Int) / 2 ^ p) 1 == 1) = false := by
              rw [HD.out]
              have := bitN_le i p
              simp only [beq_eq_false_iff_ne, ne_eq]; omega
            clear hb1 HYk HNk
            go_wp2
            go_roundw
            case rel => exact ⟨k + 1, by omega, by go_num, by rw [HNq.out], by first | exact True.intro | rfl⟩
            case measure => simp [intOf]; omega
        · obtain rfl : k = L := by omega
          have hbl := bitN_le x i
          generalize ((hitN pl i k : Nat) : Int) = ci at HH ⊢
          have HHQ := HH.out
          cases hq : (i &&& E != 0)
          · rw [hq] at HHQ
            rcases (by omega : bitN x i = 0 ∨ bitN x i = 1) with hz | hz
            · have HIS : Hid (∀ r, r < i + 1 → (bitN x r == (r &&& E != 0).toNat) = true) := Lib.hid fun r hr => by
                by_cases e : r = i
                · rw [e, hq, hz]; rfl
                · exact HI.out r (by omega)
              have HA2 := Lib.hid (fun W => by have := HA.out W; rw [hz] at this; exact this)
              clear hz hq HA hbl
              go_wp2_with (go_at_call 67; refine (HA2.out _).mono ?_; rintro e w6 ⟨rfl, hb6⟩)
              go_roundw
              case rel => exact ⟨i + 1, by omega, by go_num, HIS, bthen hN hb6⟩
              case measure => simp [intOf]; omega
            · have HA2 := Lib.hid (fun W => by have := HA.out W; rw [hz] at this; exact this)
              have HF : Hid (allLt R (fun r => bitN x r == (r &&& E != 0).toNat) = false) := Lib.hid (by
                rw [← Bool.not_eq_true, allLt_iff]
                intro h
                have := h i hlt
                rw [hq, hz] at this
                cases this)
              clear hz hq HA hbl
              go_wp2_with (go_at_call 67; refine (HA2.out _).mono ?_; rintro e w6 ⟨rfl, hb6⟩)
              go_ret
              exact ⟨by rw [HF.out]; rfl, bthen (bthen hB5 hN) hb6⟩
          · rw [hq] at HHQ
            rcases (by omega : bitN x i = 0 ∨ bitN x i = 1) with hz | hz
            · have HA2 := Lib.hid (fun W => by have := HA.out W; rw [hz] at this; exact this)
              have HF : Hid (allLt R (fun r => bitN x r == (r &&& E != 0).toNat) = false) := Lib.hid (by
                rw [← Bool.not_eq_true, allLt_iff]
                intro h
                have := h i hlt
                rw [hq, hz] at this
                cases this)
              clear hz hq HA hbl
              go_wp2_with (go_at_call 67; refine (HA2.out _).mono ?_; rintro e w6 ⟨rfl, hb6⟩)
              go_ret
              exact ⟨by rw [HF.out]; rfl, bthen (bthen hB5 hN) hb6⟩
            · have HIS : Hid (∀ r, r < i + 1 → (bitN x r == (r &&& E != 0).toNat) = true) := Lib.hid fun r hr => by
                by_cases e : r = i
                · rw [e, hq, hz]; rfl
                · exact HI.out r (by omega)
              have HA2 := Lib.hid (fun W => by have := HA.out W; rw [hz] at this; exact this)
              clear hz hq HA hbl
              go_wp2_with (go_at_call 67; refine (HA2.out _).mono ?_; rintro e w6 ⟨rfl, hb6⟩)
              go_roundw
              case rel => exact ⟨i + 1, by omega, by go_num, HIS, bthen hN hb6⟩
              case measure => simp [intOf]; omega
    · obtain rfl : i = R := by omega
      have q0 := kc hN d0
      have q1 := kc hN d1
      have HF : Hid (allLt i (fun r => bitN x r == (r &&& E != 0).toNat) = true) := Lib.hid (by rw [allLt_iff]; exact HI.out)
      go_wp2_with (go_at_call 66; refine (RWS.out _).mono ?_; rintro e w' ⟨rfl, rfl⟩)
      go_ret
      exact ⟨by rw [HF.out]; rfl, bthen hB5 hN⟩

set_option maxRecDepth 100000 in
set_option maxHeartbeats 4000000 in
theorem l08Joined_true {n : Int} {x R : Nat} (ok : FOk n x R) (w : World) :
    Calls Try.prog 41 #[.agg #[.int .i64 n, .int .i64 (x : Int)], .bool true] w fun e w' => e = .returned (.bool (jnC n x R)) ∧ Below w.heap.size w w' := by
  have n0 := ok.h0
  have n4 := ok.h4
  have r16 := ok.r16
  have hx := ok.hx
  have ALL := Lib.hid (fun W => l01All_is ok.h0 ok.h4 ok.he W)
  have HC := Lib.hid (esN_const ok)
  have ha := allN_rows ok.he
  obtain ⟨W1, hW1⟩ : ∃ W1, w.alloc (.cells #[.int .i64 n, .int .i64 (x : Int)] 26) = W1 := ⟨_, rfl⟩
  have p0 : W1.cell? ⟨w.heap.size, 0, none⟩ = some (.int .i64 n) := by rw [← hW1]; simp [go_sem]
  have p1 : W1.cell? ⟨w.heap.size, 1, none⟩ = some (.int .i64 (x : Int)) := by rw [← hW1]; simp [go_sem]
  have hB : Below w.heap.size w W1 := by rw [← hW1]; exact bnew _ _
  by_cases hx0 : x = 0
  · have hj : jnC n x R = true := by unfold jnC; rw [HC.out.2 (.inl hx0)]; rfl
    rw [hj]
    have g0 : ((x : Int) == 0) = true := by simp [hx0]
    clear hj hx0 ha hx
    go_enter Try.func41, Try.ntmps41
    go_wp2
    clear hW1
    go_quiet (fail)
    go_wp2
    go_ret
    exact ⟨rfl, below_drewN hB _⟩
  have g0 : ((x : Int) == 0) = false := by simp only [beq_eq_false_iff_ne, ne_eq]; omega
  by_cases hxa : x = 2 ^ R - 1
  · have hj : jnC n x R = true := by unfold jnC; rw [HC.out.2 (.inr (by rw [ha, hxa]))]; rfl
    rw [hj]
    have g1 : ((x : Int) == ((2 ^ R - 1 : Nat) : Int)) = true := by simp [hxa]
    clear hj hx0 ha hx hxa
    generalize ((2 ^ R - 1 : Nat) : Int) = top at ALL g1
    go_enter Try.func41, Try.ntmps41
    go_wp2
    clear hW1
    go_quiet (first | (go_at_call 65; exact quiet_eq (ALL.out _)))
    go_wp2
    go_ret
    exact ⟨rfl, below_drewN hB _⟩
  have g1 : ((x : Int) == ((2 ^ R - 1 : Nat) : Int)) = false := by simp only [beq_eq_false_iff_ne, ne_eq]; omega
  have hE0 : esN n x ≠ 0 := fun h => by
    rcases HC.out.1 h with h | h
    · exact hx0 h
    · rw [ha] at h; exact hxa (by omega)
  have hj : jnC n x R = allLt R fun r => bitN x r == (r &&& esN n x == esN n x).toNat := by
    unfold jnC
    rw [show (esN n x == 0) = false by simp [hE0]]
    rfl
  rw [hj]
  have hEl := esN_lt n x
  have RWS := Lib.hid (fun W => l01Rows_is ok.h0 ok.h4 ok.hR W)
  have AT := Lib.hid (fun i (hi : i < R) W => l01At_any n x i ok.hx (by omega) W)
  have ESS := Lib.hid (fun W => l01Essential_any ok W)
  rw [essK_places] at ESS
  have HIT : Hid (∀ i, i < R → ((hitN (placesN (esN n x) n.toNat) i (placesN (esN n x) n.toNat).length : Int) == ((placesN (esN n x) n.toNat).length : Int)) = (i &&& esN n x == esN n x)) := Lib.hid fun i hi => by
    have h1 := places_hit n.toNat (by omega) (esN n x) hEl i (by rw [← ok.he]; exact hi)
    have h2 := places_some n.toNat (by omega) (esN n x) hEl i (by rw [← ok.he]; exact hi)
    have h3 := places_len n.toNat (by omega) (esN n x) hEl
    have e : hitN (placesN (esN n x) n.toNat) i (placesN (esN n x) n.toNat).length = sizeN (i &&& esN n x) := by unfold hitN; rw [List.take_length]; exact h1
    rw [e, ← h2.2, h3]; rw [Bool.eq_iff_iff, beq_iff_eq, beq_iff_eq]; omega
  have HPL : Hid (∀ p ∈ placesN (esN n x) n.toNat, p < 4) := Lib.hid fun p hp => by have := places_lt hp; omega
  have hLl : (placesN (esN n x) n.toNat).length ≤ 4 := by
    rw [places_len n.toNat (by omega) (esN n x) hEl]; exact sizeN_le _
  generalize placesN (esN n x) n.toNat = pl at ESS HIT HPL hLl
  generalize ((2 ^ R - 1 : Nat) : Int) = top at ALL g1
  generalize esN n x = E at HIT ⊢
  obtain ⟨L, hL⟩ : ∃ L, pl.length = L := ⟨_, rfl⟩
  have HY : Hid (∀ i k, k < L → bitN i (pl[k]?.getD 0) = 1 → hitN pl i (k + 1) = hitN pl i k + 1) := Lib.hid fun i k hk h => hitN_yes (by omega) h
  have HNo : Hid (∀ i k, k < L → bitN i (pl[k]?.getD 0) ≠ 1 → hitN pl i (k + 1) = hitN pl i k) := Lib.hid fun i k hk h => hitN_no (by omega) h
  have HP4 : Hid (∀ k, k < L → pl[k]?.getD 0 < 4) := Lib.hid fun k hk => HPL.out _ (by rw [List.getElem?_eq_getElem (by omega)]; exact List.getElem_mem _)
  have HLL := Lib.hid hL
  rw [hL] at HIT hLl
  clear HC ha hx0 hxa hE0 hj hEl hx hL HPL
  go_enter Try.func41, Try.ntmps41
  go_wp2
  clear hW1
  go_quiet (first | (go_at_call 65; exact quiet_eq (ALL.out _)))
  go_wp2_with (go_at_call 44; refine (ESS.out _).mono ?_; rintro e w5 ⟨s, rfl, hown, hb1⟩; obtain ⟨a, cap, rfl, HL⟩ := owns_open hown; rw [HLL.out] at HL ⊢; clear hown)
  have hN5 : Below W1.heap.size W1 w5 := bthen (below_drewN (Below.refl _ _) nq) hb1
  have d0 := kc hN5 p0
  have d1 := kc hN5 p1
  have hB5 := bthen hB hN5
  clear hb1 hN5 p0 p1 hB g0 g1 ALL ESS
  go_loopw [6] (fun i' wr => ∃ i : Nat, i ≤ R ∧ i' = .int .i64 i ∧ Hid (∀ r, r < i → (bitN x r == (r &&& E == E).toNat) = true) ∧ Below w5.heap.size w5 wr) (fun i' _ => R - (intOf i').toNat)
  case atStart => exact ⟨0, Nat.zero_le _, rfl, Lib.hid (fun r hr => absurd hr (Nat.not_lt_zero _)), Below.refl _ _⟩
  case round =>
    obtain ⟨i, hi, rfl, HI, hN⟩ := hrel
    by_cases hlt : i < R
    · obtain ⟨wo, rfl⟩ : ∃ wo : World, wo = wr := ⟨_, rfl⟩
      have q0 := kc hN d0
      have q1 := kc hN d1
      have HA := Lib.hid (AT.out i hlt)
      have HH := Lib.hid (HIT.out i hlt)
      go_wp2_with (go_at_call 66; refine (RWS.out _).mono ?_; rintro e w' ⟨rfl, rfl⟩)
      go_loopw [7, 8] (fun c k' wr => ∃ k : Nat, k ≤ L ∧ k' = .int .i64 k ∧ c = .int .i64 (hitN pl i k) ∧ wo = wr) (fun _ k' _ => L - (intOf k').toNat)
      case atStart => exact ⟨0, Nat.zero_le _, rfl, rfl, rfl⟩
      case round =>
        obtain ⟨k, hk, rfl, rfl, rfl⟩ := hrel
        by_cases hk2 : k < L
        · obtain ⟨g, rfl, hg, hc⟩ := HL.out k hk2
          have hu := kc hN hc
          have hp := HP4.out k hk2
          have HYk := Lib.hid (HY.out i k hk2)
          have HNk := Lib.hid (HNo.out i k hk2)
          have hle := hitN_le pl i k
          generalize pl[k]?.getD 0 = p at hu hp HYk HNk
          have eu : IntKind.u64.wrap (p : Int) = (p : Int) := by simp [IntKind.wrap, IntKind.bits, IntKind.signed]; omega
          have HD := Lib.hid (digit_eq i p (by omega))
          clear hc
          by_cases hb1 : bitN i p = 1
          · have HYq := Lib.hid (HYk.out hb1)
            have hd : (bits .and .i64 ((i : Int) / 2 ^ p) 1 == 1) = true := by rw [HD.out, hb1]; rfl
            clear hb1 HYk HNk
            go_wp2
            go_roundw
            case rel => exact ⟨k + 1, by omega, by go_num, by rw [HYq.out]; go_num, by first | exact True.intro | rfl⟩
            case measure => simp [intOf]; omega
          · have HNq := Lib.hid (HNk.out hb1)
            have hd : (bits .and .i64 ((i : Int) / 2 ^ p) 1 == 1) = false := by
              rw [HD.out]
              have := bitN_le i p
              simp only [beq_eq_false_iff_ne, ne_eq]; omega
            clear hb1 HYk HNk
            go_wp2
            go_roundw
            case rel => exact ⟨k + 1, by omega, by go_num, by rw [HNq.out], by first | exact True.intro | rfl⟩
            case measure => simp [intOf]; omega
        · obtain rfl : k = L := by omega
          have hbl := bitN_le x i
          generalize ((hitN pl i k : Nat) : Int) = ci at HH ⊢
          have HHQ := HH.out
          cases hq : (i &&& E == E)
          · rw [hq] at HHQ
            rcases (by omega : bitN x i = 0 ∨ bitN x i = 1) with hz | hz
            · have HIS : Hid (∀ r, r < i + 1 → (bitN x r == (r &&& E == E).toNat) = true) := Lib.hid fun r hr => by
                by_cases e : r = i
                · rw [e, hq, hz]; rfl
                · exact HI.out r (by omega)
              have HA2 := Lib.hid (fun W => by have := HA.out W; rw [hz] at this; exact this)
              clear hz hq HA hbl
              go_wp2_with (go_at_call 67; refine (HA2.out _).mono ?_; rintro e w6 ⟨rfl, hb6⟩)
              go_roundw
              case rel => exact ⟨i + 1, by omega, by go_num, HIS, bthen hN hb6⟩
              case measure => simp [intOf]; omega
            · have HA2 := Lib.hid (fun W => by have := HA.out W; rw [hz] at this; exact this)
              have HF : Hid (allLt R (fun r => bitN x r == (r &&& E == E).toNat) = false) := Lib.hid (by
                rw [← Bool.not_eq_true, allLt_iff]
                intro h
                have := h i hlt
                rw [hq, hz] at this
                cases this)
              clear hz hq HA hbl
              go_wp2_with (go_at_call 67; refine (HA2.out _).mono ?_; rintro e w6 ⟨rfl, hb6⟩)
              go_ret
              exact ⟨by rw [HF.out]; rfl, bthen (bthen hB5 hN) hb6⟩
          · rw [hq] at HHQ
            rcases (by omega : bitN x i = 0 ∨ bitN x i = 1) with hz | hz
            · have HA2 := Lib.hid (fun W => by have := HA.out W; rw [hz] at this; exact this)
              have HF : Hid (allLt R (fun r => bitN x r == (r &&& E == E).toNat) = false) := Lib.hid (by
                rw [← Bool.not_eq_true, allLt_iff]
                intro h
                have := h i hlt
                rw [hq, hz] at this
                cases this)
              clear hz hq HA hbl
              go_wp2_with (go_at_call 67; refine (HA2.out _).mono ?_; rintro e w6 ⟨rfl, hb6⟩)
              go_ret
              exact ⟨by rw [HF.out]; rfl, bthen (bthen hB5 hN) hb6⟩
            · have HIS : Hid (∀ r, r < i + 1 → (bitN x r == (r &&& E == E).toNat) = true) := Lib.hid fun r hr => by
                by_cases e : r = i
                · rw [e, hq, hz]; rfl
                · exact HI.out r (by omega)
              have HA2 := Lib.hid (fun W => by have := HA.out W; rw [hz] at this; exact this)
              clear hz hq HA hbl
              go_wp2_with (go_at_call 67; refine (HA2.out _).mono ?_; rintro e w6 ⟨rfl, hb6⟩)
              go_roundw
              case rel => exact ⟨i + 1, by omega, by go_num, HIS, bthen hN hb6⟩
              case measure => simp [intOf]; omega
    · obtain rfl : i = R := by omega
      have q0 := kc hN d0
      have q1 := kc hN d1
      have HF : Hid (allLt i (fun r => bitN x r == (r &&& E == E).toNat) = true) := Lib.hid (by rw [allLt_iff]; exact HI.out)
      go_wp2_with (go_at_call 66; refine (RWS.out _).mono ?_; rintro e w' ⟨rfl, rfl⟩)
      go_ret
      exact ⟨by rw [HF.out]; rfl, bthen hB5 hN⟩

end Go.Proofs.Ythjgkgknlecjlaa

/- I1:
  The two closures of PermuteFunc. -/
namespace Go.Proofs.Ythjgkgknlecjlaa
open Go.RowKit
set_option linter.unusedVariables false

/-- What a permutation of the variables says, number by number: within 0..3. -/
def permI (xs : List Int) (i : Nat) : Nat := (xs[i]?.getD 0).toNat

end Go.Proofs.Ythjgkgknlecjlaa

/- I2:
  isPermutation. -/
namespace Go.Proofs.Ythjgkgknlecjlaa
open Go.RowKit
set_option linter.unusedVariables false

/-- The first j numbers of a list are variables of n, each once. -/
def PermTo (n : Int) (xs : List Int) (j : Nat) : Prop := ∀ i, i < j → (0 ≤ xs[i]?.getD 0 ∧ xs[i]?.getD 0 ≤ n - 1) ∧ ∀ k, k < i → xs[k]?.getD 0 ≠ xs[i]?.getD 0

theorem PermTo.step {n : Int} {xs : List Int} {j : Nat} (h : PermTo n xs j) (h1 : 0 ≤ xs[j]?.getD 0 ∧ xs[j]?.getD 0 ≤ n - 1) (h2 : ¬ ∃ i, i < j ∧ xs[i]?.getD 0 = xs[j]?.getD 0) : PermTo n xs (j + 1) := by
  intro i hi
  by_cases e : i = j
  · subst e
    exact ⟨h1, fun k hk he => h2 ⟨k, hk, he⟩⟩
  · exact h i (by omega)

theorem PermTo.not_in {n : Int} {xs : List Int} {j l : Nat} (hj : j < l) (h1 : ¬ (0 ≤ xs[j]?.getD 0 ∧ xs[j]?.getD 0 ≤ n - 1)) : ¬ PermTo n xs l := fun h => h1 (h j hj).1
theorem PermTo.not_twice {n : Int} {xs : List Int} {j l : Nat} (hj : j < l) (h1 : ∃ i, i < j ∧ xs[i]?.getD 0 = xs[j]?.getD 0) : ¬ PermTo n xs l := fun h => by
  obtain ⟨i, hi, e⟩ := h1
  exact (h j hj).2 i hi e

/-- What a row of marks says: which numbers stand among the first j. -/
def seenB (xs : List Int) (j k : Nat) : Bool := (List.range j).any fun i => xs[i]?.getD 0 == (k : Int)
theorem seenB_true {xs : List Int} {j k : Nat} : seenB xs j k = true ↔ ∃ i, i < j ∧ xs[i]?.getD 0 = (k : Int) := by simp [seenB]
theorem seenB_zero (xs : List Int) (k : Nat) : seenB xs 0 k = false := by simp [seenB]
theorem seenB_same {xs : List Int} {j k : Nat} (h : xs[j]?.getD 0 = (k : Int)) : seenB xs (j + 1) k = true := seenB_true.2 ⟨j, by omega, h⟩
theorem seenB_other {xs : List Int} {j k : Nat} (h : xs[j]?.getD 0 ≠ (k : Int)) : seenB xs (j + 1) k = seenB xs j k := by
  apply Bool.eq_iff_iff.2
  rw [seenB_true, seenB_true]
  constructor
  · rintro ⟨i, hi, e⟩
    by_cases hij : i = j
    · exact absurd (hij ▸ e) h
    · exact ⟨i, by omega, e⟩
  · rintro ⟨i, hi, e⟩
    exact ⟨i, by omega, e⟩

end Go.Proofs.Ythjgkgknlecjlaa

/- J1:
  l01Order of the model. -/
namespace Go.Proofs.Ythjgkgknlecjlaa
open Go.RowKit

theorem infoB : (Try.prog.info? 4).map (fun i => (i.zero, i.size, i.bytes)) = some (some (.bool false), 1, 1) := by kernel_rfl

/-- The row of marks. -/
def seenV (xs : List Int) (j m : Nat) : List Value := (List.range m).map fun k => .bool (seenB xs j k)
theorem seenV_zero (xs : List Int) (m : Nat) : seenV xs 0 m = List.replicate m (.bool false) := by
  unfold seenV
  apply List.ext_getElem
  · simp
  · intro i h1 h2
    simp [seenB_zero]
theorem seenV_len (xs : List Int) (j m : Nat) : (seenV xs j m).length = m := by simp [seenV]
theorem seenV_get (xs : List Int) (j m k : Nat) (h : k < m) : (seenV xs j m)[k]? = some (.bool (seenB xs j k)) := by simp [seenV, h]
theorem seenV_set (xs : List Int) (j m q : Nat) (h : xs[j]?.getD 0 = (q : Int)) : (seenV xs j m).set q (.bool true) = seenV xs (j + 1) m := by
  unfold seenV
  apply List.ext_getElem
  · simp
  · intro i h1 h2
    simp only [List.length_set, List.length_map, List.length_range] at h1
    rw [List.getElem_set]
    by_cases e : q = i
    · subst e
      simp [seenB_same h]
    · simp only [e, if_false, List.getElem_map, List.getElem_range]
      rw [seenB_other (by rw [h]; omega)]

end Go.Proofs.Ythjgkgknlecjlaa

/- J0:
  areDifferentBelow, and isPermutation by it. -/
namespace Go.Proofs.Ythjgkgknlecjlaa
open Go.RowKit
set_option linter.unusedVariables false
set_option linter.unusedSimpArgs false

theorem owns_form {W : World} {base : Nat} {s : Value} {xs : List Int} {m : Nat} (h : Owns W base s xs) (hx : xs.length = m) : ∃ a cap, s = .slice a m cap := by
  rcases h.shape with ⟨e, a, cap, rfl⟩ | ⟨hn, g, cap, rfl, _⟩
  · rw [e] at hx; simp at hx; subst hx; exact ⟨_, _, rfl⟩
  · rw [hx]; exact ⟨_, _, rfl⟩

end Go.Proofs.Ythjgkgknlecjlaa

/- CN20:
  l08Name of the model. -/
namespace Go.Proofs.Ythjgkgknlecjlaa
open Go.RowKit Go.Shelf
set_option linter.unusedVariables false
set_option linter.unusedSimpArgs false

/-- What all of the first functions are. -/
def unP (p : Int × Int) : Bool := unB p.1 p.2.toNat
def djP (p : Int × Int) : Bool := jnD p.1 p.2.toNat (2 ^ p.1.toNat)
def cjP (p : Int × Int) : Bool := jnC p.1 p.2.toNat (2 ^ p.1.toNat)
def unT (xs : List (Int × Int)) : Nat → Bool
  | 0 => true
  | k + 1 => unT xs k && unP (fget xs k)
def djT (xs : List (Int × Int)) : Nat → Bool
  | 0 => true
  | k + 1 => djT xs k && djP (fget xs k)
def cjT (xs : List (Int × Int)) : Nat → Bool
  | 0 => true
  | k + 1 => cjT xs k && cjP (fget xs k)
theorem add_bits : ∀ s < 32, ∀ u d c : Bool, ((s ||| u.toNat <<< 5) ||| d.toNat <<< 6) ||| c.toNat <<< 7 = s + 32 * u.toNat + 64 * d.toNat + 128 * c.toNat := by decide +kernel
theorem and_bits : ∀ s < 32, ∀ t < 32, ∀ u d c u' d' c' : Bool, (s + 32 * u.toNat + 64 * d.toNat + 128 * c.toNat) &&& (t + 32 * u'.toNat + 64 * d'.toNat + 128 * c'.toNat) = (s &&& t) + 32 * (u && u').toNat + 64 * (d && d').toNat + 128 * (c && c').toNat := by decide +kernel
theorem cmT_parts (xs : List (Int × Int)) (k : Nat) : cmT xs k = comTo xs k + 32 * (unT xs k).toNat + 64 * (djT xs k).toNat + 128 * (cjT xs k).toNat := by
  induction k with
  | zero => rfl
  | succ k ih =>
    have h1 : tsP (fget xs k) = setP (fget xs k) + 32 * (unP (fget xs k)).toNat + 64 * (djP (fget xs k)).toNat + 128 * (cjP (fget xs k)).toNat := add_bits _ (setP_lt _) _ _ _
    rw [cmT, ih, h1, and_bits _ (comTo_lt xs k) _ (setP_lt _)]
    rfl
theorem nmL_is (xs : List (Int × Int)) : nmL xs = nmS (comTo xs xs.length) (unT xs xs.length) (djT xs xs.length) (cjT xs xs.length) (dgT xs 0 xs.length) (dgT xs 1 xs.length) := by
  rw [nm_same (comTo_lt xs _) _ _ _ (dgT_ok xs 0 _) (dgT_ok xs 1 _), ← cmT_parts]
  rfl
theorem ess_p {p : Int × Int} (h : isF p.1 p.2 = true) (w : World) :
    Calls Try.prog 44 #[.agg #[.int .i64 p.1, .int .i64 p.2]] w fun e w' => ∃ a L cap, e = .returned (.slice a L cap) ∧ decide ((L : Int) ≤ 1) = unP p ∧ Below w.heap.size w w' := by
  obtain ⟨ok, e⟩ := fok_p h
  have hs := essK_size ok.h0 ok.h4 p.2.toNat
  have := l01Essential_any ok w
  rw [e] at this
  refine this.mono ?_
  rintro e w' ⟨s, rfl, hown, hb⟩
  obtain ⟨a, cap, rfl⟩ := owns_form hown rfl
  refine ⟨a, _, cap, rfl, ?_, hb⟩
  unfold unP unB
  rw [hs]
  simp only [decide_eq_decide]
  omega
theorem dj_p {p : Int × Int} (h : isF p.1 p.2 = true) (w : World) :
    Calls Try.prog 41 #[.agg #[.int .i64 p.1, .int .i64 p.2], .bool false] w fun e w' => e = .returned (.bool (djP p)) ∧ Below w.heap.size w w' := by
  obtain ⟨ok, e⟩ := fok_p h
  have := l08Joined_false ok w
  rw [e] at this
  exact this
theorem cj_p {p : Int × Int} (h : isF p.1 p.2 = true) (w : World) :
    Calls Try.prog 41 #[.agg #[.int .i64 p.1, .int .i64 p.2], .bool true] w fun e w' => e = .returned (.bool (cjP p)) ∧ Below w.heap.size w w' := by
  obtain ⟨ok, e⟩ := fok_p h
  have := l08Joined_true ok w
  rw [e] at this
  exact this
theorem sdeg_p {p : Int × Int} (h : isF p.1 p.2 = true) (c : Nat) (hc : c ≤ 1) (w : World) :
    Calls Try.prog 37 #[.agg #[.int .i64 p.1, .int .i64 p.2], .int .i64 (c : Int)] w fun e w' => e = .returned (.int .i64 (dgP p c : Int)) ∧ Below w.heap.size w w' := by
  obtain ⟨ok, e⟩ := fok_p h
  have := l08Degree_any ok c hc w
  rw [e] at this
  exact this
end Go.Proofs.Ythjgkgknlecjlaa

/- CN21:
  l08Name of the model: the walk. -/
namespace Go.Proofs.Ythjgkgknlecjlaa
open Go.RowKit Go.Shelf
set_option linter.unusedVariables false
set_option linter.unusedSimpArgs false

theorem cl_bits : ∀ cl < 32, (((cl &&& 4 : Nat) : Int) != 0) = (bitN cl 2 == 1) ∧ (((cl &&& 8 : Nat) : Int) != 0) = (bitN cl 3 == 1) ∧ (((cl &&& 16 : Nat) : Int) != 0) = (bitN cl 4 == 1) ∧ (((cl &&& 1 : Nat) : Int) != 0) = (bitN cl 0 == 1) ∧ (((cl &&& 2 : Nat) : Int) != 0) = (bitN cl 1 == 1) ∧ (((cl &&& 3 : Nat) : Int) == 3) = decide (cl % 4 = 3) := by decide
theorem kindN_size (k m : Bool) (a b c d : ByteArray) (ha : a.size ≤ 100) (hb : b.size ≤ 100) (hc : c.size ≤ 100) (hd : d.size ≤ 100) : (kindN k m a b c d).size ≤ 100 := by
  unfold kindN
  split
  · exact ha
  · split
    · exact hb
    · split
      · exact hc
      · exact hd

set_option maxRecDepth 100000 in
set_option maxHeartbeats 16000000 in
theorem l08Name_any {base : Nat} {s : Value} {xs : List (Int × Int)} (h8 : xs.length ≤ 8) (hx : AreF xs) (w : World) (h : OwnsF w base s xs) :
    Calls Try.prog 47 #[s] w fun e w' => e = .returned (.string (nmL xs)) ∧ Below w.heap.size w w' := by
  have hl : xs.length ≤ 1048576 := by omega
  have CLS := Lib.hid (l02Classes_whole hl hx h8 w h)
  obtain ⟨a, cap, rfl, hrow⟩ := h.cells
  have HROW := Lib.hid hrow
  have HX : Hid (∀ j, j < xs.length → isF (fget xs j).1 (fget xs j).2 = true) := Lib.hid hx
  have hcl := comTo_lt xs xs.length
  have HR := Lib.hid (nmL_is xs)
  have HD0 := Lib.hid (dgT_ok xs 0 xs.length)
  have HD1 := Lib.hid (dgT_ok xs 1 xs.length)
  generalize nmL xs = R at HR ⊢
  clear h hrow hx
  generalize comTo xs xs.length = cl at CLS hcl HR
  generalize xs.length = L at hl h8 HROW HX CLS HR HD0 HD1 ⊢
  have WH := Lib.hid (fun W => l02Whole_any a L cap h8 W)
  generalize wholeN L = wn at WH CLS
  go_enter Try.func47, Try.ntmps47
  go_wp2_with (first
    | (go_at_call 83; refine (WH.out _).mono ?_; rintro e w' ⟨rfl, rfl⟩)
    | (go_at_call 82; refine CLS.out.mono ?_; rintro e w1 ⟨rfl, hb1⟩))
  go_loopw [4, 5, 6, 7, 8, 9] (fun u' d' c' z' o' i' wr => ∃ i : Nat, i ≤ L ∧ i' = .int .i64 i ∧ u' = .bool (unT xs i) ∧ d' = .bool (djT xs i) ∧ c' = .bool (cjT xs i) ∧ z' = .int .i64 (dgT xs 0 i : Int) ∧ o' = .int .i64 (dgT xs 1 i : Int) ∧ Below w.heap.size w wr) (fun _ _ _ _ _ i' _ => L - (intOf i').toNat)
  case atStart => exact ⟨0, Nat.zero_le _, rfl, rfl, rfl, rfl, rfl, rfl, hb1⟩
  case round =>
    obtain ⟨i, hi, rfl, rfl, rfl, rfl, rfl, rfl, hN0⟩ := hrel
    by_cases hlt : i < L
    · obtain ⟨g, rfl, hg, hc⟩ : ∃ g, a = some ⟨g, 0, none⟩ ∧ g < w.heap.size ∧ Hid (∀ j, j < L → w.cell? ⟨g, j * 2, none⟩ = some (.int .i64 (fget xs j).1) ∧ w.cell? ⟨g, j * 2 + 1, none⟩ = some (.int .i64 (fget xs j).2)) := by
        rcases HROW.out with h0 | h1
        · omega
        · exact h1
      obtain ⟨e0, e1⟩ := hc.out i hlt
      have d00 := (hN0.cell (p := ⟨g, i * 2, none⟩) hg).trans e0
      have d10 := (hN0.cell (p := ⟨g, i * 2 + 1, none⟩) hg).trans e1
      clear e0 e1
      have hp := HX.out i hlt
      have ES := Lib.hid (fun W => ess_p hp W)
      have DJ := Lib.hid (fun W => dj_p hp W)
      have CJ := Lib.hid (fun W => cj_p hp W)
      have SD0 := Lib.hid (fun W => sdeg_p hp 0 (by decide) W)
      have SD1 := Lib.hid (fun W => sdeg_p hp 1 (by decide) W)
      rw [show (((0 : Nat)) : Int) = 0 from rfl] at SD0
      rw [show (((1 : Nat)) : Int) = 1 from rfl] at SD1
      have HU : Hid (unT xs (i + 1) = (unT xs i && unP (fget xs i))) := Lib.hid rfl
      have HD : Hid (djT xs (i + 1) = (djT xs i && djP (fget xs i))) := Lib.hid rfl
      have HC : Hid (cjT xs (i + 1) = (cjT xs i && cjP (fget xs i))) := Lib.hid rfl
      have H0 : Hid (dgT xs 0 (i + 1) = min (dgT xs 0 i) (dgP (fget xs i) 0)) := Lib.hid rfl
      have H1 : Hid (dgT xs 1 (i + 1) = min (dgT xs 1 i) (dgP (fget xs i) 1)) := Lib.hid rfl
      clear hp
      generalize unT xs i = U at HU ⊢
      generalize djT xs i = D at HD ⊢
      generalize cjT xs i = C at HC ⊢
      generalize dgT xs 0 i = z0 at H0 ⊢
      generalize dgT xs 1 i = z1 at H1 ⊢
      generalize unP (fget xs i) = un at ES HU
      generalize djP (fget xs i) = dj at DJ HD
      generalize cjP (fget xs i) = cj at CJ HC
      generalize dgP (fget xs i) 0 = q0 at SD0 H0
      generalize dgP (fget xs i) 1 = q1 at SD1 H1
      generalize (fget xs i).1 = n at d00 ES DJ CJ SD0 SD1
      generalize (fget xs i).2 = b at d10 ES DJ CJ SD0 SD1
      have hm0 : (if q0 < z0 then (q0 : Int) else (z0 : Int)) = ((min z0 q0 : Nat) : Int) := by split <;> omega
      have hm1 : (if q1 < z1 then (q1 : Int) else (z1 : Int)) = ((min z1 q1 : Nat) : Int) := by split <;> omega
      cases U <;> cases D <;> cases C
      · go_wp2_with (first
          | (go_at_call 37; with_reducible refine (SD1.out _).mono ?_; rintro e w12 ⟨rfl, hb12⟩; have hN2 := bthen hN1 hb12; have d02 := kc hb12 d01; have d12 := kc hb12 d11)
          | (go_at_call 37; with_reducible refine (SD0.out _).mono ?_; rintro e w11 ⟨rfl, hb11⟩; have hN1 := bthen hN0 hb11; have d01 := kc hb11 d00; have d11 := kc hb11 d10))
        go_roundw
        case rel => exact ⟨i + 1, by omega, by go_num, by rw [HU.out] <;> first | rfl | (rw [hle2]; rfl) | simp [hle, hle2], by rw [HD.out] <;> rfl, by rw [HC.out] <;> rfl, by rw [H0.out] <;> first | rfl | (rw [hm0]), by rw [H1.out] <;> first | rfl | (rw [hm1]), hN2⟩
        case measure => simp [intOf]; omega
      · go_wp2_with (first
          | (go_at_call 37; with_reducible refine (SD1.out _).mono ?_; rintro e w13 ⟨rfl, hb13⟩; have hN3 := bthen hN2 hb13; have d03 := kc hb13 d02; have d13 := kc hb13 d12)
          | (go_at_call 37; with_reducible refine (SD0.out _).mono ?_; rintro e w12 ⟨rfl, hb12⟩; have hN2 := bthen hN1 hb12; have d02 := kc hb12 d01; have d12 := kc hb12 d11)
          | (go_at_call 41; with_reducible refine (CJ.out _).mono ?_; rintro e w11 ⟨rfl, hb11⟩; have hN1 := bthen hN0 hb11; have d01 := kc hb11 d00; have d11 := kc hb11 d10))
        go_roundw
        case rel => exact ⟨i + 1, by omega, by go_num, by rw [HU.out] <;> first | rfl | (rw [hle2]; rfl) | simp [hle, hle2], by rw [HD.out] <;> rfl, by rw [HC.out] <;> rfl, by rw [H0.out] <;> first | rfl | (rw [hm0]), by rw [H1.out] <;> first | rfl | (rw [hm1]), hN3⟩
        case measure => simp [intOf]; omega
      · go_wp2_with (first
          | (go_at_call 37; with_reducible refine (SD1.out _).mono ?_; rintro e w13 ⟨rfl, hb13⟩; have hN3 := bthen hN2 hb13; have d03 := kc hb13 d02; have d13 := kc hb13 d12)
          | (go_at_call 37; with_reducible refine (SD0.out _).mono ?_; rintro e w12 ⟨rfl, hb12⟩; have hN2 := bthen hN1 hb12; have d02 := kc hb12 d01; have d12 := kc hb12 d11)
          | (go_at_call 41; with_reducible refine (DJ.out _).mono ?_; rintro e w11 ⟨rfl, hb11⟩; have hN1 := bthen hN0 hb11; have d01 := kc hb11 d00; have d11 := kc hb11 d10))
        go_roundw
        case rel => exact ⟨i + 1, by omega, by go_num, by rw [HU.out] <;> first | rfl | (rw [hle2]; rfl) | simp [hle, hle2], by rw [HD.out] <;> rfl, by rw [HC.out] <;> rfl, by rw [H0.out] <;> first | rfl | (rw [hm0]), by rw [H1.out] <;> first | rfl | (rw [hm1]), hN3⟩
        case measure => simp [intOf]; omega
      · go_wp2_with (first
          | (go_at_call 37; with_reducible refine (SD1.out _).mono ?_; rintro e w14 ⟨rfl, hb14⟩; have hN4 := bthen hN3 hb14; have d04 := kc hb14 d03; have d14 := kc hb14 d13)
          | (go_at_call 37; with_reducible refine (SD0.out _).mono ?_; rintro e w13 ⟨rfl, hb13⟩; have hN3 := bthen hN2 hb13; have d03 := kc hb13 d02; have d13 := kc hb13 d12)
          | (go_at_call 41; with_reducible refine (CJ.out _).mono ?_; rintro e w12 ⟨rfl, hb12⟩; have hN2 := bthen hN1 hb12; have d02 := kc hb12 d01; have d12 := kc hb12 d11)
          | (go_at_call 41; with_reducible refine (DJ.out _).mono ?_; rintro e w11 ⟨rfl, hb11⟩; have hN1 := bthen hN0 hb11; have d01 := kc hb11 d00; have d11 := kc hb11 d10))
        go_roundw
        case rel => exact ⟨i + 1, by omega, by go_num, by rw [HU.out] <;> first | rfl | (rw [hle2]; rfl) | simp [hle, hle2], by rw [HD.out] <;> rfl, by rw [HC.out] <;> rfl, by rw [H0.out] <;> first | rfl | (rw [hm0]), by rw [H1.out] <;> first | rfl | (rw [hm1]), hN4⟩
        case measure => simp [intOf]; omega
      · go_wp2_with (first
          | (go_at_call 37; with_reducible refine (SD1.out _).mono ?_; rintro e w13 ⟨rfl, hb13⟩; have hN3 := bthen hN2 hb13; have d03 := kc hb13 d02; have d13 := kc hb13 d12)
          | (go_at_call 37; with_reducible refine (SD0.out _).mono ?_; rintro e w12 ⟨rfl, hb12⟩; have hN2 := bthen hN1 hb12; have d02 := kc hb12 d01; have d12 := kc hb12 d11)
          | (go_at_call 44; with_reducible refine (ES.out _).mono ?_; rintro e w11 ⟨a1, L1, c1, rfl, hle, hb11⟩; have hN1 := bthen hN0 hb11; have d01 := kc hb11 d00; have d11 := kc hb11 d10; have hle2 : decide (L1 ≤ 1) = un := by rw [← hle]; simp only [decide_eq_decide]; omega))
        go_roundw
        case rel => exact ⟨i + 1, by omega, by go_num, by rw [HU.out] <;> first | rfl | (rw [hle2]; rfl) | simp [hle, hle2], by rw [HD.out] <;> rfl, by rw [HC.out] <;> rfl, by rw [H0.out] <;> first | rfl | (rw [hm0]), by rw [H1.out] <;> first | rfl | (rw [hm1]), hN3⟩
        case measure => simp [intOf]; omega
      · go_wp2_with (first
          | (go_at_call 37; with_reducible refine (SD1.out _).mono ?_; rintro e w14 ⟨rfl, hb14⟩; have hN4 := bthen hN3 hb14; have d04 := kc hb14 d03; have d14 := kc hb14 d13)
          | (go_at_call 37; with_reducible refine (SD0.out _).mono ?_; rintro e w13 ⟨rfl, hb13⟩; have hN3 := bthen hN2 hb13; have d03 := kc hb13 d02; have d13 := kc hb13 d12)
          | (go_at_call 41; with_reducible refine (CJ.out _).mono ?_; rintro e w12 ⟨rfl, hb12⟩; have hN2 := bthen hN1 hb12; have d02 := kc hb12 d01; have d12 := kc hb12 d11)
          | (go_at_call 44; with_reducible refine (ES.out _).mono ?_; rintro e w11 ⟨a1, L1, c1, rfl, hle, hb11⟩; have hN1 := bthen hN0 hb11; have d01 := kc hb11 d00; have d11 := kc hb11 d10; have hle2 : decide (L1 ≤ 1) = un := by rw [← hle]; simp only [decide_eq_decide]; omega))
        go_roundw
        case rel => exact ⟨i + 1, by omega, by go_num, by rw [HU.out] <;> first | rfl | (rw [hle2]; rfl) | simp [hle, hle2], by rw [HD.out] <;> rfl, by rw [HC.out] <;> rfl, by rw [H0.out] <;> first | rfl | (rw [hm0]), by rw [H1.out] <;> first | rfl | (rw [hm1]), hN4⟩
        case measure => simp [intOf]; omega
      · go_wp2_with (first
          | (go_at_call 37; with_reducible refine (SD1.out _).mono ?_; rintro e w14 ⟨rfl, hb14⟩; have hN4 := bthen hN3 hb14; have d04 := kc hb14 d03; have d14 := kc hb14 d13)
          | (go_at_call 37; with_reducible refine (SD0.out _).mono ?_; rintro e w13 ⟨rfl, hb13⟩; have hN3 := bthen hN2 hb13; have d03 := kc hb13 d02; have d13 := kc hb13 d12)
          | (go_at_call 41; with_reducible refine (DJ.out _).mono ?_; rintro e w12 ⟨rfl, hb12⟩; have hN2 := bthen hN1 hb12; have d02 := kc hb12 d01; have d12 := kc hb12 d11)
          | (go_at_call 44; with_reducible refine (ES.out _).mono ?_; rintro e w11 ⟨a1, L1, c1, rfl, hle, hb11⟩; have hN1 := bthen hN0 hb11; have d01 := kc hb11 d00; have d11 := kc hb11 d10; have hle2 : decide (L1 ≤ 1) = un := by rw [← hle]; simp only [decide_eq_decide]; omega))
        go_roundw
        case rel => exact ⟨i + 1, by omega, by go_num, by rw [HU.out] <;> first | rfl | (rw [hle2]; rfl) | simp [hle, hle2], by rw [HD.out] <;> rfl, by rw [HC.out] <;> rfl, by rw [H0.out] <;> first | rfl | (rw [hm0]), by rw [H1.out] <;> first | rfl | (rw [hm1]), hN4⟩
        case measure => simp [intOf]; omega
      · go_wp2_with (first
          | (go_at_call 37; with_reducible refine (SD1.out _).mono ?_; rintro e w15 ⟨rfl, hb15⟩; have hN5 := bthen hN4 hb15; have d05 := kc hb15 d04; have d15 := kc hb15 d14)
          | (go_at_call 37; with_reducible refine (SD0.out _).mono ?_; rintro e w14 ⟨rfl, hb14⟩; have hN4 := bthen hN3 hb14; have d04 := kc hb14 d03; have d14 := kc hb14 d13)
          | (go_at_call 41; with_reducible refine (CJ.out _).mono ?_; rintro e w13 ⟨rfl, hb13⟩; have hN3 := bthen hN2 hb13; have d03 := kc hb13 d02; have d13 := kc hb13 d12)
          | (go_at_call 41; with_reducible refine (DJ.out _).mono ?_; rintro e w12 ⟨rfl, hb12⟩; have hN2 := bthen hN1 hb12; have d02 := kc hb12 d01; have d12 := kc hb12 d11)
          | (go_at_call 44; with_reducible refine (ES.out _).mono ?_; rintro e w11 ⟨a1, L1, c1, rfl, hle, hb11⟩; have hN1 := bthen hN0 hb11; have d01 := kc hb11 d00; have d11 := kc hb11 d10; have hle2 : decide (L1 ≤ 1) = un := by rw [← hle]; simp only [decide_eq_decide]; omega))
        go_roundw
        case rel => exact ⟨i + 1, by omega, by go_num, by rw [HU.out] <;> first | rfl | (rw [hle2]; rfl) | simp [hle, hle2], by rw [HD.out] <;> rfl, by rw [HC.out] <;> rfl, by rw [H0.out] <;> first | rfl | (rw [hm0]), by rw [H1.out] <;> first | rfl | (rw [hm1]), hN5⟩
        case measure => simp [intOf]; omega
    · obtain rfl : i = L := by omega
      obtain ⟨b2, b3, b4, b0, b1, b33⟩ := cl_bits cl hcl
      have A4 := and_int cl 4 (by omega) (by decide)
      have A8 := and_int cl 8 (by omega) (by decide)
      have A16 := and_int cl 16 (by omega) (by decide)
      have A1 := and_int cl 1 (by omega) (by decide)
      have A2 := and_int cl 2 (by omega) (by decide)
      have A3 := and_int cl 3 (by omega) (by decide)
      rw [show (((4 : Nat)) : Int) = 4 from rfl] at A4
      rw [show (((8 : Nat)) : Int) = 8 from rfl] at A8
      rw [show (((16 : Nat)) : Int) = 16 from rfl] at A16
      rw [show (((1 : Nat)) : Int) = 1 from rfl] at A1
      rw [show (((2 : Nat)) : Int) = 2 from rfl] at A2
      rw [show (((3 : Nat)) : Int) = 3 from rfl] at A3
      rw [← A4] at b2
      rw [← A8] at b3
      rw [← A16] at b4
      rw [← A1] at b0
      rw [← A2] at b1
      rw [← A3] at b33
      clear A4 A8 A16 A1 A2 A3
      have FOUR := Lib.hid (fun (s3 s1 s2 s0 : ByteArray) W => l08Four_any cl (by omega) s3 s1 s2 s0 W)
      have HZ := HD0.out
      have HO := HD1.out
      unfold nmS at HR
      generalize unT xs i = U at HR ⊢
      generalize djT xs i = D at HR ⊢
      generalize cjT xs i = C at HR ⊢
      generalize dgT xs 0 i = z at HR HZ ⊢
      generalize dgT xs 1 i = o at HR HO ⊢
      generalize (bitN cl 2 == 1) = dual at HR b2
      generalize (bitN cl 3 == 1) = mono at HR b3
      generalize (bitN cl 4 == 1) = affine at HR b4
      generalize (bitN cl 0 == 1) = k0 at HR b0
      generalize (bitN cl 1 == 1) = k1 at HR b1
      generalize decide (cl % 4 = 3) = k3 at HR b33
      clear HROW HX CLS WH HD0 HD1
      cases U with
      | true =>
        cases mono with
        | true =>
          go_wp2_with (first | (go_at_call 84; with_reducible refine (FOUR.out _ _ _ _ _).mono ?_; rintro e w5 ⟨rfl, rfl⟩))
          go_ret
          exact ⟨by rw [HR.out]; first | rfl | simp, hN0⟩
        | false =>
          cases dual with
          | true =>
            go_wp2_with (first | (go_at_call 84; with_reducible refine (FOUR.out _ _ _ _ _).mono ?_; rintro e w5 ⟨rfl, rfl⟩))
            go_ret
            exact ⟨by rw [HR.out]; first | rfl | simp, hN0⟩
          | false =>
            go_wp2_with (first | (go_at_call 84; with_reducible refine (FOUR.out _ _ _ _ _).mono ?_; rintro e w5 ⟨rfl, rfl⟩))
            go_ret
            exact ⟨by rw [HR.out]; first | rfl | simp, hN0⟩
      | false =>
      cases D with
      | true =>
        go_wp2_with (first | (go_at_call 84; with_reducible refine (FOUR.out _ _ _ _ _).mono ?_; rintro e w5 ⟨rfl, rfl⟩))
        go_ret
        exact ⟨by rw [HR.out]; first | rfl | simp, hN0⟩
      | false =>
      cases C with
      | true =>
        go_wp2_with (first | (go_at_call 84; with_reducible refine (FOUR.out _ _ _ _ _).mono ?_; rintro e w5 ⟨rfl, rfl⟩))
        go_ret
        exact ⟨by rw [HR.out]; first | rfl | simp, hN0⟩
      | false =>
      cases affine with
      | true =>
        cases k3 with
        | true =>
          go_wp2_with (first | (go_at_call 84; with_reducible refine (FOUR.out _ _ _ _ _).mono ?_; rintro e w5 ⟨rfl, rfl⟩))
          go_ret
          exact ⟨by rw [HR.out]; first | rfl | simp, hN0⟩
        | false =>
          cases dual with
          | true =>
            go_wp2_with (first | (go_at_call 84; with_reducible refine (FOUR.out _ _ _ _ _).mono ?_; rintro e w5 ⟨rfl, rfl⟩))
            go_ret
            exact ⟨by rw [HR.out]; first | rfl | simp, hN0⟩
          | false =>
            go_wp2_with (first | (go_at_call 84; with_reducible refine (FOUR.out _ _ _ _ _).mono ?_; rintro e w5 ⟨rfl, rfl⟩))
            go_ret
            exact ⟨by rw [HR.out]; first | rfl | simp, hN0⟩
      | false =>
      cases dual with
      | true =>
        cases mono with
        | true =>
          go_wp2_with (first | (go_at_call 84; with_reducible refine (FOUR.out _ _ _ _ _).mono ?_; rintro e w5 ⟨rfl, rfl⟩))
          go_ret
          exact ⟨by rw [HR.out]; first | rfl | simp, hN0⟩
        | false =>
          cases k0 with
          | true =>
            go_wp2_with (first | (go_at_call 84; with_reducible refine (FOUR.out _ _ _ _ _).mono ?_; rintro e w5 ⟨rfl, rfl⟩))
            go_ret
            exact ⟨by rw [HR.out]; first | rfl | simp, hN0⟩
          | false =>
            go_wp2_with (first | (go_at_call 84; with_reducible refine (FOUR.out _ _ _ _ _).mono ?_; rintro e w5 ⟨rfl, rfl⟩))
            go_ret
            exact ⟨by rw [HR.out]; first | rfl | simp, hN0⟩
      | false =>
      by_cases hz2 : 2 ≤ z
      · have DG := Lib.hid (fun W => l08Degrees_any (kindN k0 mono ⟨#[83, 48, 48]⟩ ⟨#[83, 48, 49]⟩ ⟨#[83, 48, 50]⟩ ⟨#[83, 48]⟩) (kindN_size _ _ _ _ _ _ (by decide) (by decide) (by decide) (by decide)) z (by unfold degOk at HZ; omega) W)
        have hgz : decide ((2 : Int) ≤ (z : Int)) = true := by simp; omega
        have HZ2 := Lib.hid hz2
        clear HZ HO hz2
        generalize (z : Int) = zi at hgz DG ⊢
        go_wp2_with (first | (go_at_call 86; with_reducible refine (l08Kind_any k0 mono _ _ _ _ _).mono ?_; rintro e w5 ⟨rfl, rfl⟩) | (go_at_call 85; with_reducible refine (DG.out _).mono ?_; rintro e w6 ⟨rfl, hb6⟩))
        go_ret
        exact ⟨by rw [HR.out]; first | rfl | simp [HZ2.out], bthen hN0 hb6⟩
      · have hgz : decide ((2 : Int) ≤ (z : Int)) = false := by simp; omega
        have HZ2 := Lib.hid hz2
        by_cases ho2 : 2 ≤ o
        · have DG := Lib.hid (fun W => l08Degrees_any (kindN k1 mono ⟨#[83, 49, 48]⟩ ⟨#[83, 49, 49]⟩ ⟨#[83, 49, 50]⟩ ⟨#[83, 49]⟩) (kindN_size _ _ _ _ _ _ (by decide) (by decide) (by decide) (by decide)) o (by unfold degOk at HO; omega) W)
          have hgo : decide ((2 : Int) ≤ (o : Int)) = true := by simp; omega
          have HO2 := Lib.hid ho2
          clear HZ HO hz2 ho2
          generalize (z : Int) = zi at hgz ⊢
          generalize (o : Int) = oi at hgo DG ⊢
          go_wp2_with (first | (go_at_call 86; with_reducible refine (l08Kind_any k1 mono _ _ _ _ _).mono ?_; rintro e w5 ⟨rfl, rfl⟩) | (go_at_call 85; with_reducible refine (DG.out _).mono ?_; rintro e w6 ⟨rfl, hb6⟩))
          go_ret
          exact ⟨by rw [HR.out]; first | rfl | simp [HZ2.out, HO2.out], bthen hN0 hb6⟩
        · have hgo : decide ((2 : Int) ≤ (o : Int)) = false := by simp; omega
          have HO2 := Lib.hid ho2
          clear HZ HO hz2 ho2
          generalize (z : Int) = zi at hgz ⊢
          generalize (o : Int) = oi at hgo ⊢
          cases mono with
          | true =>
            go_wp2_with (first | (go_at_call 84; with_reducible refine (FOUR.out _ _ _ _ _).mono ?_; rintro e w5 ⟨rfl, rfl⟩))
            go_ret
            exact ⟨by rw [HR.out]; first | rfl | simp [HZ2.out, HO2.out], hN0⟩
          | false =>
            go_wp2_with (first | (go_at_call 84; with_reducible refine (FOUR.out _ _ _ _ _).mono ?_; rintro e w5 ⟨rfl, rfl⟩))
            go_ret
            exact ⟨by rw [HR.out]; first | rfl | simp [HZ2.out, HO2.out], hN0⟩
end Go.Proofs.Ythjgkgknlecjlaa

/- CN22:
  CloneName in both packages. -/
namespace Go.Proofs.Ythjgkgknlecjlaa
open Go.RowKit Go.Shelf
set_option linter.unusedVariables false
set_option linter.unusedSimpArgs false

set_option maxHeartbeats 1000000 in
theorem specCloneName_no {base : Nat} {s : Value} {xs : List (Int × Int)} (hl : xs.length ≤ 1048576) (hc : codeL xs ≠ 0) (w : World) (h : OwnsF w base s xs) :
    Calls Try.prog 20 #[s] w fun e w' => e = .returned (.tuple #[.string ⟨#[]⟩, .int .i64 (codeL xs)]) ∧ Below w.heap.size w w' := by
  have LC := Lib.hid (l02Code_any hl w h rfl)
  have hne := codeL_ne hc
  obtain ⟨a, cap, rfl, _⟩ := h.cells
  clear h hc
  generalize codeL xs = c at LC hne ⊢
  generalize xs.length = L at *
  go_enter Try.func20, Try.ntmps20
  go_wp2_with (go_at_call 46; refine LC.out.mono ?_; rintro e w2 ⟨rfl, hb2⟩)
  exact bodyPost_ret (v := .tuple #[.string ⟨#[]⟩, .int .i64 c]) (by simp [results, Try.results20, go_sem]) rfl ⟨rfl, hb2⟩
set_option maxHeartbeats 1000000 in
theorem specCloneName_yes {base : Nat} {s : Value} {xs : List (Int × Int)} (hl : xs.length ≤ 1048576) (hc : codeL xs = 0) (w : World) (h : OwnsF w base s xs) :
    Calls Try.prog 20 #[s] w fun e w' => e = .returned (.tuple #[.string (nmL xs), .int .i64 0]) ∧ Below w.heap.size w w' := by
  have LC := Lib.hid (l02Code_any hl w h hc)
  have CN := Lib.hid (fun W (hW : Below w.heap.size w W) => l08Name_any (codeL_ok hc).2 (codeL_ok hc).1 W (h.below hW))
  obtain ⟨a, cap, rfl, _⟩ := h.cells
  clear h hc
  generalize nmL xs = nm at CN ⊢
  generalize xs.length = L at *
  go_enter Try.func20, Try.ntmps20
  go_wp2_with (first
    | (go_at_call 46; refine LC.out.mono ?_; rintro e w2 ⟨rfl, hb2⟩)
    | (go_at_call 47; refine (CN.out _ hb2).mono ?_; rintro e w3 ⟨rfl, hb3⟩))
  exact bodyPost_ret (v := .tuple #[.string nm, .int .i64 0]) (by simp [results, Try.results20, go_sem]) rfl ⟨rfl, bthen hb2 hb3⟩
theorem bothCloneName {xs : List (Int × Int)} (hl : xs.length ≤ 1048576) : ∃ (rx : ByteArray) (rc : Int),
    (∀ (base : Nat) (s : Value) (w : World), OwnsF w base s xs → Calls Try.prog 20 #[s] w fun e w' => e = .returned (.tuple #[.string rx, .int .i64 rc]) ∧ Below w.heap.size w w') ∧
    (∀ (base : Nat) (s : Value) (w : World), OwnsF w base s xs → Calls Try.prog 22 #[s] w fun e w' => e = .returned (.tuple #[.string rx, .int .i64 rc]) ∧ Below w.heap.size w w') := by
  by_cases hc : codeL xs = 0
  · exact ⟨_, _, fun _ _ w h => specCloneName_yes hl hc w h, fun _ _ w h => implCloneName_yes hl hc w h⟩
  · exact ⟨_, _, fun _ _ w h => specCloneName_no hl hc w h, fun _ _ w h => implCloneName_no hl hc w h⟩
end Go.Proofs.Ythjgkgknlecjlaa

/- H0:
  The box of an answer that is a function. -/
namespace Go.Proofs.Ythjgkgknlecjlaa
open Go.RowKit
theorem ansBox (n b : Int) (w : World) : ∃ W1, w.alloc (.cells #[.int .i64 n, .int .i64 b] 26) = W1 ∧ W1.cell? ⟨w.heap.size, 0, none⟩ = some (.int .i64 n) ∧ W1.cell? ⟨w.heap.size, 1, none⟩ = some (.int .i64 b) ∧ Below w.heap.size w W1 :=
  ⟨_, rfl, by simp [go_sem], by simp [go_sem], bnew _ _⟩
end Go.Proofs.Ythjgkgknlecjlaa

/- FCloneName:
  The walk of the law on CloneName: both packages answer alike, and the list that came in is as it was. -/
namespace Go.Proofs.Ythjgkgknlecjlaa
open Go.RowKit
set_option linter.unusedVariables false

set_option maxRecDepth 100000 in
set_option maxHeartbeats 4000000 in
theorem fnExactCloneName_walk (a0 : Option Addr) (len0 cap0 : Nat) (z0 : List (Int × Int)) (w : World) (hr0 : IsRowF w a0 len0 z0) :
    Calls Try.prog 7 #[.slice a0 len0 cap0] w fun e w' => e = .returned (.bool true) ∧ Below w.heap.size w w' := by
  by_cases hle : len0 ≤ 1048576
  · have hxl : z0.length ≤ 1048576 := by rw [hr0.1]; exact hle
    obtain ⟨rx, rc, c1, c2⟩ := bothCloneName hxl 
    have C1 := Lib.hid c1
    have C2 := Lib.hid c2
    have HR := Lib.hid hr0
    have HX := Lib.hid hxl
    clear c1 c2 hr0 hxl
    obtain ⟨W1, hW1⟩ : ∃ W1, w = W1 := ⟨_, rfl⟩
    have hN : Below w.heap.size w W1 := by rw [← hW1]; exact Below.refl _ _
    go_enter Try.func7, Try.ntmps7
    go_wp2_with fail
    clear hW1
    refine (szFuncS_ok a0 len0 cap0 hle _).mono ?_
    rintro e w' ⟨rfl, rfl⟩
    go_wp2_with fail
    refine (toFuncS_any HR.out hle _ hN).mono ?_
    rintro e w2 ⟨s1, rfl, o, hb⟩
    have O1 := Lib.hid o
    clear o
    replace hN := bthen hN hb
    clear hb
    go_wp2_with fail
    refine (C1.out _ _ _ O1.out).mono ?_
    rintro e w3 ⟨rfl, hb⟩
    replace hN := bthen hN hb
    replace O1 := Lib.hid (O1.out.below hb)
    clear hb
    clear O1
    go_wp2_with fail
    refine (toFuncS_any HR.out hle _ hN).mono ?_
    rintro e w4 ⟨s2, rfl, o, hb⟩
    have O2 := Lib.hid o
    clear o
    replace hN := bthen hN hb
    clear hb
    go_wp2_with fail
    refine (C2.out _ _ _ O2.out).mono ?_
    rintro e w5 ⟨rfl, hb⟩
    replace hN := bthen hN hb
    replace O2 := Lib.hid (O2.out.below hb)
    clear hb
    go_wp2_with fail
    refine (toFuncS_any HR.out hle _ hN).mono ?_
    rintro e w6 ⟨s3, rfl, o, hb⟩
    have O3 := Lib.hid o
    clear o
    replace hN := bthen hN hb
    replace O2 := Lib.hid (O2.out.below hb)
    clear hb
    go_wp2_with fail
    refine (eqFuncS_same (by have := HX.out; omega) _ O2.out O3.out).mono ?_
    rintro e w7 ⟨rfl, hb⟩
    replace hN := bthen hN hb
    replace O2 := Lib.hid (O2.out.below hb)
    replace O3 := Lib.hid (O3.out.below hb)
    clear hb
    clear O3
    go_wp2
    go_ret
    exact ⟨rfl, hN⟩
  · have hlim := hr0.2.1
    clear hr0
    obtain ⟨W1, hW1⟩ : ∃ W1, w = W1 := ⟨_, rfl⟩
    have hN : Below w.heap.size w W1 := by rw [← hW1]; exact Below.refl _ _
    go_enter Try.func7, Try.ntmps7
    go_wp2_with (go_at_call 19; refine (szFuncS_over a0 len0 cap0 (by omega) hlim _).mono ?_; rintro e w' ⟨rfl, rfl⟩)
    go_ret
    exact ⟨rfl, hN⟩
end Go.Proofs.Ythjgkgknlecjlaa
