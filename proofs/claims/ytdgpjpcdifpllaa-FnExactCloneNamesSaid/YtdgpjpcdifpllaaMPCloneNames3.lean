/-
  The texts CN13, CN15, CN16, U1, U2, U3, CN17, CN24a, Q4, CN18, O1, O2, O3, CN41, SRT, CN42, CN43 in one.
-/
import Derived.Test.YtdgpjpcdifpllaaMPCloneNames2
import Derived.Laws.IdiomStrings
import Derived.Laws.Concat
import Derived.OwnWalkIn
import Derived.Deep.AppendLies
import Derived.Lib.Bytes
import Derived.Shelf.Sort.Plain
import Derived.Test.YtdgpjpcdifpllaaProg
import Derived.Sort.OwnSorted

/- CN13:
  traitSetOf and traitsOf of the program. -/
namespace Go.Proofs.Ytdgpjpcdifpllaa
open Go.RowKit Go.Shelf
set_option linter.unusedVariables false
set_option linter.unusedSimpArgs false

/-- The traits of a function. -/
def tsN (n : Int) (x R : Nat) : Nat := ((setN n.toNat x R ||| (unB n x).toNat <<< 5) ||| (jnD n x R).toNat <<< 6) ||| (jnC n x R).toNat <<< 7
theorem or_bit (a : Nat) (ha : a < 1048576) (b : Bool) (k m : Nat) (hm : m = 2 ^ k) (hk : k ≤ 7) : bits .or .i64 (a : Int) (IntKind.i64.wrap ((b.toNat : Int) * (m : Int))) = ((a ||| b.toNat <<< k : Nat) : Int) := by
  have hb : b.toNat ≤ 1 := by cases b <;> decide
  have hp : (2 : Nat) ^ k ≤ 2 ^ 7 := Nat.pow_le_pow_right (by decide) hk
  have h2 : b.toNat * m ≤ 1 * 128 := Nat.mul_le_mul hb (by omega)
  have e : (b.toNat : Int) * (m : Int) = ((b.toNat * m : Nat) : Int) := by push_cast; rfl
  rw [e, wrap64_small (by omega) (by omega), bits_or_nat _ _ (by omega) (by omega), hm, Nat.shiftLeft_eq]
theorem or_three (s : Nat) (hs : s < 32) (u d c : Bool) : bits BinOp.or IntKind.i64 (bits BinOp.or IntKind.i64 (bits BinOp.or IntKind.i64 (s : Int) (IntKind.i64.wrap ((u.toNat : Int) * 32))) (IntKind.i64.wrap ((d.toNat : Int) * 64))) (IntKind.i64.wrap ((c.toNat : Int) * 128)) = ((((s ||| u.toNat <<< 5) ||| d.toNat <<< 6) ||| c.toNat <<< 7 : Nat) : Int) := by
  have h1 : s ||| u.toNat <<< 5 < 64 := Nat.or_lt_two_pow (n := 6) (by omega) (by cases u <;> decide)
  have h2 : (s ||| u.toNat <<< 5) ||| d.toNat <<< 6 < 128 := Nat.or_lt_two_pow (n := 7) (by omega) (by cases d <;> decide)
  have e1 := or_bit s (by omega) u 5 32 rfl (by decide)
  have e2 := or_bit _ (by omega : s ||| u.toNat <<< 5 < 1048576) d 6 64 rfl (by decide)
  have e3 := or_bit _ (by omega : (s ||| u.toNat <<< 5) ||| d.toNat <<< 6 < 1048576) c 7 128 rfl (by decide)
  rw [show ((32 : Nat) : Int) = 32 from rfl] at e1
  rw [show ((64 : Nat) : Int) = 64 from rfl] at e2
  rw [show ((128 : Nat) : Int) = 128 from rfl] at e3
  rw [e1, e2, e3]
theorem setN_lt (n x R : Nat) : setN n x R < 32 := sumN_lt _ 5 (fun k _ => clsV_le n x R k)

/-- Traits in memory, with the answer's box below them. -/
structure TrM (w : World) (T cm d0 d1 : Nat) (W : World) : Prop where
  c0 : W.cell? ⟨T, 0, none⟩ = some (.int .i64 (cm : Int))
  c1 : W.cell? ⟨T, 1, none⟩ = some (.int .i64 (d0 : Int))
  c2 : W.cell? ⟨T, 2, none⟩ = some (.int .i64 (d1 : Int))
  c3 : W.cell? ⟨T, 3, none⟩ = some (.int .i64 9)
  f0 : W.frozen? ⟨T, 0, none⟩ = false
  f1 : W.frozen? ⟨T, 1, none⟩ = false
  f2 : W.frozen? ⟨T, 2, none⟩ = false
  r0 : W.cell? ⟨w.heap.size, 0, none⟩ = some (.int .i64 0)
  r1 : W.cell? ⟨w.heap.size, 1, none⟩ = some (.int .i64 0)
  r2 : W.cell? ⟨w.heap.size, 2, none⟩ = some (.int .i64 0)
  r3 : W.cell? ⟨w.heap.size, 3, none⟩ = some (.int .i64 0)
  g0 : W.frozen? ⟨w.heap.size, 0, none⟩ = false
  g1 : W.frozen? ⟨w.heap.size, 1, none⟩ = false
  g2 : W.frozen? ⟨w.heap.size, 2, none⟩ = false
  g3 : W.frozen? ⟨w.heap.size, 3, none⟩ = false
  hold : Below w.heap.size w W
theorem TrM.below {w : World} {T cm d0 d1 : Nat} {W W' : World} (h : TrM w T cm d0 d1 W) (hb : Below W.heap.size W W') : TrM w T cm d0 d1 W' :=
  ⟨kc hb h.c0, kc hb h.c1, kc hb h.c2, kc hb h.c3, kf hb h.c0 h.f0, kf hb h.c1 h.f1, kf hb h.c2 h.f2, kc hb h.r0, kc hb h.r1, kc hb h.r2, kc hb h.r3, kf hb h.r0 h.g0, kf hb h.r1 h.g1, kf hb h.r2 h.g2, kf hb h.r3 h.g3, bthen h.hold hb⟩
theorem TrM.set0 {w : World} {T cm d0 d1 : Nat} {W : World} (h : TrM w T cm d0 d1 W) (hne : ¬ T = w.heap.size) (hle : w.heap.size ≤ T) (v : Nat) : TrM w T v d0 d1 (W.setCell ⟨T, 0, none⟩ (.int .i64 (v : Int))) := by
  obtain ⟨c0, c1, c2, c3, f0, f1, f2, r0, r1, r2, r3, g0, g1, g2, g3, ho⟩ := h
  constructor <;> first | exact ho.setCell (p := ⟨T, 0, none⟩) hle _ | simp [go_sem, c0, c1, c2, c3, f0, f1, f2, r0, r1, r2, r3, g0, g1, g2, g3, hne]
theorem TrM.set1 {w : World} {T cm d0 d1 : Nat} {W : World} (h : TrM w T cm d0 d1 W) (hne : ¬ T = w.heap.size) (hle : w.heap.size ≤ T) (v : Nat) : TrM w T cm v d1 (W.setCell ⟨T, 1, none⟩ (.int .i64 (v : Int))) := by
  obtain ⟨c0, c1, c2, c3, f0, f1, f2, r0, r1, r2, r3, g0, g1, g2, g3, ho⟩ := h
  constructor <;> first | exact ho.setCell (p := ⟨T, 1, none⟩) hle _ | simp [go_sem, c0, c1, c2, c3, f0, f1, f2, r0, r1, r2, r3, g0, g1, g2, g3, hne]
theorem TrM.set2 {w : World} {T cm d0 d1 : Nat} {W : World} (h : TrM w T cm d0 d1 W) (hne : ¬ T = w.heap.size) (hle : w.heap.size ≤ T) (v : Nat) : TrM w T cm d0 v (W.setCell ⟨T, 2, none⟩ (.int .i64 (v : Int))) := by
  obtain ⟨c0, c1, c2, c3, f0, f1, f2, r0, r1, r2, r3, g0, g1, g2, g3, ho⟩ := h
  constructor <;> first | exact ho.setCell (p := ⟨T, 2, none⟩) hle _ | simp [go_sem, c0, c1, c2, c3, f0, f1, f2, r0, r1, r2, r3, g0, g1, g2, g3, hne]

/-- The traits of the first functions of a list. -/
def tsP (p : Int × Int) : Nat := tsN p.1 p.2.toNat (2 ^ p.1.toNat)
def dgP (p : Int × Int) (c : Nat) : Nat := dgN p.2.toNat (2 ^ p.1.toNat) c
def cmT (xs : List (Int × Int)) : Nat → Nat
  | 0 => 255
  | k + 1 => cmT xs k &&& tsP (fget xs k)
def dgT (xs : List (Int × Int)) (c : Nat) : Nat → Nat
  | 0 => 9
  | k + 1 => min (dgT xs c k) (dgP (fget xs k) c)
theorem cmT_lt (xs : List (Int × Int)) (k : Nat) : cmT xs k < 256 := by
  induction k with
  | zero => exact (by decide : (255 : Nat) < 256)
  | succ k ih => exact Nat.lt_of_le_of_lt Nat.and_le_left ih
theorem dgT_le (xs : List (Int × Int)) (c k : Nat) : dgT xs c k ≤ 9 := by
  induction k with
  | zero => exact Nat.le_refl _
  | succ k ih => exact Nat.le_trans (Nat.min_le_left _ _) ih
theorem tsN_lt (n : Int) (x R : Nat) : tsN n x R < 256 := by
  have hs := setN_lt n.toNat x R
  unfold tsN
  refine Nat.or_lt_two_pow (n := 8) (Nat.or_lt_two_pow (n := 8) (Nat.or_lt_two_pow (n := 8) (by omega) ?_) ?_) ?_
  · cases unB n x <;> decide
  · cases jnD n x R <;> decide
  · cases jnC n x R <;> decide
theorem fok_p {p : Int × Int} (h : isF p.1 p.2 = true) : FOk p.1 p.2.toNat (2 ^ p.1.toNat) ∧ ((p.2.toNat : Nat) : Int) = p.2 := by
  obtain ⟨x, R, e, ok⟩ := fok h
  have e2 : p.2.toNat = x := by omega
  rw [e2, ← ok.he]
  exact ⟨ok, e.symm⟩
end Go.Proofs.Ytdgpjpcdifpllaa

/- CN15:
  The first line that fits. -/
namespace Go.Proofs.Ytdgpjpcdifpllaa
open Go.RowKit Go.Shelf
set_option linter.unusedVariables false
set_option linter.unusedSimpArgs false

/-- The degree that a line asks for. -/
def degK (d0 d1 k : Nat) : Nat := if k = 0 then d0 else if k = 1 then d1 else 9
def fitB (cm d0 d1 k : Nat) (ts : List Nat) : Bool := decide (2 ≤ degK d0 d1 k) && ts.all fun t => bitN cm t == 1
theorem test_calls {t : Nat} (ht : t < 8) : (∀ args w, (callFunc (testF t) args).run Try.prog w = .ok (.enter (testF t) args) w) ∧
    ∀ (cm d0 d1 d2 : Nat), cm < 256 → ∀ w, Calls Try.prog (testF t) #[trV cm d0 d1 d2] w fun e w' => e = .returned (.bool (bitN cm t == 1)) ∧ Below w.heap.size w w' := by
  rcases (by omega : t = 0 ∨ t = 1 ∨ t = 2 ∨ t = 3 ∨ t = 4 ∨ t = 5 ∨ t = 6 ∨ t = 7) with rfl | rfl | rfl | rfl | rfl | rfl | rfl | rfl
  · exact ⟨enters_of Try.func214 (by kernel_rfl) rfl, fun cm d0 d1 d2 h w => keepZero_any cm d0 d1 d2 h w⟩
  · exact ⟨enters_of Try.func215 (by kernel_rfl) rfl, fun cm d0 d1 d2 h w => keepOne_any cm d0 d1 d2 h w⟩
  · exact ⟨enters_of Try.func216 (by kernel_rfl) rfl, fun cm d0 d1 d2 h w => areSelfDual_any cm d0 d1 d2 h w⟩
  · exact ⟨enters_of Try.func213 (by kernel_rfl) rfl, fun cm d0 d1 d2 h w => areMonotone_any cm d0 d1 d2 h w⟩
  · exact ⟨enters_of Try.func219 (by kernel_rfl) rfl, fun cm d0 d1 d2 h w => areAffine_any cm d0 d1 d2 h w⟩
  · exact ⟨enters_of Try.func212 (by kernel_rfl) rfl, fun cm d0 d1 d2 h w => areUnary_any cm d0 d1 d2 h w⟩
  · exact ⟨enters_of Try.func217 (by kernel_rfl) rfl, fun cm d0 d1 d2 h w => areDisjunctions_any cm d0 d1 d2 h w⟩
  · exact ⟨enters_of Try.func218 (by kernel_rfl) rfl, fun cm d0 d1 d2 h w => areConjunctions_any cm d0 d1 d2 h w⟩

end Go.Proofs.Ytdgpjpcdifpllaa

/- CN16:
  The first line that fits a list with given traits. -/
namespace Go.Proofs.Ytdgpjpcdifpllaa
open Go.RowKit Go.Shelf
set_option linter.unusedVariables false
set_option linter.unusedSimpArgs false

def fitJ (cm d0 d1 j : Nat) : Bool := fitB cm d0 d1 (lnK j) (lnT j)
def ixN (cm d0 d1 : Nat) : Nat := ((List.range 38).find? (fitJ cm d0 d1)).getD 37
theorem fit_last (cm d0 d1 : Nat) : fitJ cm d0 d1 37 = true := rfl
theorem ln_small : ∀ j < 38, lnK j ≤ 2 ∧ (∀ t ∈ lnT j, t < 8) ∧ (lnT j).length ≤ 1000 := by decide
theorem ix_at {cm d0 d1 i : Nat} (hi : i < 38) (hb : ∀ j, j < i → fitJ cm d0 d1 j = false) (h : fitJ cm d0 d1 i = true) : ixN cm d0 d1 = i := by
  have : (List.range 38).find? (fitJ cm d0 d1) = some i := by
    rw [List.find?_range_eq_some]
    exact ⟨h, List.mem_range.2 hi, fun j hj => by rw [hb j hj]; rfl⟩
  unfold ixN
  rw [this]
  rfl
theorem ix_spec (cm d0 d1 : Nat) : ixN cm d0 d1 < 38 ∧ fitJ cm d0 d1 (ixN cm d0 d1) = true ∧ ∀ j, j < ixN cm d0 d1 → fitJ cm d0 d1 j = false := by
  unfold ixN
  cases hf : (List.range 38).find? (fitJ cm d0 d1) with
  | none =>
    rw [List.find?_eq_none] at hf
    exact absurd (fit_last cm d0 d1) (hf 37 (by decide))
  | some i =>
    rw [List.find?_range_eq_some] at hf
    obtain ⟨h1, h2, h3⟩ := hf
    exact ⟨List.mem_range.1 h2, h1, fun j hj => by simpa using h3 j hj⟩

end Go.Proofs.Ytdgpjpcdifpllaa

/- U1:
  Digits as texts. -/
namespace Go.Proofs.Ytdgpjpcdifpllaa
open Go.RowKit
set_option linter.unusedVariables false

/-- The byte of a digit. -/
def dgB (d : Nat) : UInt8 := UInt8.ofNat (48 + d)

theorem dgB_nat (d : Nat) (hd : d < 200) : (dgB d).toNat = 48 + d := by
  unfold dgB
  rw [UInt8.toNat_ofNat']
  exact Nat.mod_eq_of_lt (by omega)

end Go.Proofs.Ytdgpjpcdifpllaa

/- U2:
  The texts of functions in the model. -/
namespace Go.Proofs.Ytdgpjpcdifpllaa
open Go.RowKit
set_option linter.unusedVariables false

/-- The bytes of a text, with the values of the first k rows. -/
def txtL (n x k : Nat) : List UInt8 := dgB n :: 58 :: (List.range k).map fun r => dgB (bitN x r)
theorem txtL_succ (n x k : Nat) : txtL n x (k + 1) = txtL n x k ++ [dgB (bitN x k)] := by simp [txtL, List.range_succ]
theorem txtL_len (n x k : Nat) : (txtL n x k).length = k + 2 := by simp [txtL]
def txtS (n x k : Nat) : ByteArray := ⟨(txtL n x k).toArray⟩
theorem txtS_size (n x k : Nat) : (txtS n x k).size = k + 2 := by show ((txtL n x k).toArray).size = _; rw [List.size_toArray, txtL_len]
theorem txtS_zero (n x : Nat) : ((⟨#[dgB n]⟩ : ByteArray) ++ ⟨#[58]⟩) = txtS n x 0 := by rw [ByteArray.mk_append_mk]; rfl
theorem txtS_app (n x k : Nat) : (txtS n x k ++ (⟨#[dgB (bitN x k)]⟩ : ByteArray)) = txtS n x (k + 1) := by unfold txtS; rw [ByteArray.mk_append_mk, txtL_succ]
theorem txtS_succ (n x k : Nat) : (⟨(txtS n x k).data ++ #[dgB (bitN x k)]⟩ : ByteArray) = txtS n x (k + 1) := by
  unfold txtS
  rw [txtL_succ]
  simp

end Go.Proofs.Ytdgpjpcdifpllaa

/- U3:
  FuncText in both packages. -/
namespace Go.Proofs.Ytdgpjpcdifpllaa
open Go.RowKit Go.Shelf
set_option linter.unusedVariables false
attribute [local go_sem] Oper.semAt_some

theorem infoU8 : (Try.prog.info? 5).map (fun i => (i.zero, i.size, i.bytes)) = some (some (.int .u8 0), 1, 1) := by kernel_rfl

/-- .. of the rows handed out. -/
def txtF {R : Nat} (n x : Nat) (pre : List (Row R)) : List UInt8 := dgB n :: 58 :: pre.map fun r => dgB (bitN x r.1)
def bvals (l : List UInt8) : List Value := l.map fun b => .int .u8 (b.toNat : Int)
theorem bvals_snoc (l : List UInt8) (b : UInt8) : bvals (l ++ [b]) = bvals l ++ [.int .u8 (b.toNat : Int)] := by simp [bvals]
theorem txtF_snoc {R : Nat} (n x : Nat) (pre : List (Row R)) (r : Row R) : txtF n x (pre ++ [r]) = txtF n x pre ++ [dgB (bitN x r.1)] := by simp [txtF]
theorem txtF_len {R : Nat} (n x : Nat) (pre : List (Row R)) : (txtF n x pre).length = pre.length + 2 := by simp [txtF]
theorem txtF_upto {R : Nat} (hR : 0 < R) (n x k : Nat) (hk : k ≤ R) : txtF n x (upto hR k) = txtL n x k := by
  induction k with
  | zero => rfl
  | succ k ih => rw [upto_succ, txtF_snoc, ih (by omega), txtL_succ, rowAt_val hR (k := k) (by omega)]

theorem owns_below' {W W' : World} {base : Nat} {e : TypeId} {size : Nat} {v : Value} {n : Nat} {xs : List Value} (h : W.ownsRow base e size v n xs) (hb : Below W.heap.size W W') : W'.ownsRow base e size v n xs := owns_below h hb

/-- An append to a list of one's own, within a region that draws. -/
theorem stepIn_append_own {F : Fence} {n : Nat} {P : Program} (w : World) {ops : Array Oper} {o : Oper} {a : Act} {K : Act → World → Prop} {Q : Exit → Act → World → Prop} {E : Prop}
    (hg : o.guard = none) (s x : Operand) (t : TypeId) (hop : o.op = Op.call { callee := Callee.builtin Builtin.append, args := #[s, x], argTypes := #[t, t] })
    (base : Nat) (e : TypeId) (i : TypeInfo) (z : Value) (size bytes : Nat) (h1 : P.underlying t = some (.slice e)) (h2 : P.info? e = some i) (h3 : i.zero = some z) (h4 : i.size = size) (h5 : i.bytes = bytes) (h6 : z.cells.size = size) (h7 : 0 < size)
    (v : Value) (k : Nat) (xs : List Value) (hs : a.eval s = v) (hown : w.ownsRow base e size v k xs) (ad : Addr) (m c : Nat) (news : List Value) (hx : a.eval x = .slice (some ad) m c) (hn : news.length = m * size)
    (hc : ∀ j u, news[j]? = some u → w.cell? (ad.add j) = some u) (h1c : ∀ u ∈ news, u.oneCell' = true) (b1 : k + m ≤ maxLen) (b2 : (k + m) * bytes ≤ 140737488355328) (b3 : base ≤ w.heap.size)
    (hK : ∀ v' w', w'.ownsRow base e size v' (k + m) (xs ++ news) → w.grownBy w' v.ownBlock → K (a.put o.dst v') w') :
    if Region.wanted o (yielded ops a.tmps) = true then Oper.wpIn F n P o a w K Q else E := by
  rw [if_pos (by simp [Region.wanted, hg])]
  obtain ⟨v', w', hrun, r1, r2, _⟩ := run_append_own (P := P) w base t o.type e i z size bytes h1 h2 h3 h4 h5 h6 h7 v k xs hown ad m c news hn hc h1c b1 b2 b3
  unfold Oper.wpIn
  refine ⟨by simp [Oper.about, hop, resolve, Target.leads, Sem.run_pure], ?_⟩
  rw [Oper.semAt_plain F _ _ (by rw [hop]; intro c hc'; cases hc')]
  simp [execOp, hop, resolve, invoke, builtin, hs, hx, hrun, Result.andThen]
  exact hK _ _ r1 r2

theorem digitByte_any (d : Nat) (hd : d < 10) (w : World) :
    Calls Try.prog 173 #[.int .i64 (d : Int)] w fun e w' => e = .returned (.int .u8 ((dgB d).toNat : Int)) ∧ w = w' := by
  have hv := dgB_nat d (by omega)
  go_enter Try.func173, Try.ntmps173
  go_wp2
  go_ret
  exact ⟨by rw [hv]; push_cast; rfl, rfl⟩

end Go.Proofs.Ytdgpjpcdifpllaa

/- CN17:
  Names of lists: the program. -/
namespace Go.Proofs.Ytdgpjpcdifpllaa
open Go.RowKit Go.Shelf
set_option linter.unusedVariables false
set_option linter.unusedSimpArgs false

/-- A name with its degree. -/
def nmB (b : ByteArray) (d : Nat) : ByteArray := if d = 9 then b else (b ++ ⟨#[94]⟩) ++ ⟨#[UInt8.ofNat (48 + d)]⟩

set_option maxRecDepth 100000 in
set_option maxHeartbeats 2000000 in
theorem cloneName9_any (b g : ByteArray) (k : Int) (tv : Value) (hv : tv.oneCell' = true) (w : World) :
    Calls Try.prog 126 #[.agg #[.string b, .int .i64 k, tv, .string g, .int .i64 9]] w fun e w' => e = .returned (.string b) ∧ Below w.heap.size w w' := by
  go_enter Try.func126, Try.ntmps126
  go_wp2
  go_ret
  exact ⟨rfl, bnew _ _⟩
set_option maxRecDepth 100000 in
set_option maxHeartbeats 2000000 in
theorem cloneName2_any (b g : ByteArray) (hb : b.size ≤ 100) (k : Int) (tv : Value) (hv : tv.oneCell' = true) (w : World) :
    Calls Try.prog 126 #[.agg #[.string b, .int .i64 k, tv, .string g, .int .i64 2]] w fun e w' => e = .returned (.string (nmB b 2)) ∧ Below w.heap.size w w' := by
  obtain ⟨W1, hW1⟩ : ∃ W1, w.alloc (.cells #[.string b, .int .i64 k, tv, .string g, .int .i64 2] 165) = W1 := ⟨_, rfl⟩
  have p0 : W1.cell? ⟨w.heap.size, 0, none⟩ = some (.string b) := by rw [← hW1]; simp [go_sem]
  have p4 : W1.cell? ⟨w.heap.size, 4, none⟩ = some (.int .i64 2) := by rw [← hW1]; simp [go_sem]
  have hB : Below w.heap.size w W1 := by rw [← hW1]; exact bnew _ _
  have DB := Lib.hid (fun W => digitByte_any 2 (by decide) W)
  have s1 : ¬ 9223372036854775807 < b.size + 1 := by omega
  have s2 : ¬ 9223372036854775807 < b.size + 1 + 1 := by omega
  have hcv : ∀ (n : Int) W, (convert 5 9 (.int .u8 n)).run Try.prog W = .ok (.string (Utf8.encode n)) W := fun n W => run_convert_int_string W _ _ _ _ (by kernel_rfl) Try.underlying9
  have he : Utf8.encode 50 = ⟨#[50]⟩ := by rfl
  have hdg : (((dgB 2).toNat : Nat) : Int) = 50 := rfl
  rw [hdg] at DB
  clear hb
  go_enter Try.func126, Try.ntmps126
  go_wp2
  clear hW1
  go_quiet (first | (go_at_call 173; exact quiet_eq (DB.out _)))
  go_wp2
  go_ret
  exact ⟨rfl, below_drewN hB _⟩
set_option maxRecDepth 100000 in
set_option maxHeartbeats 2000000 in
theorem cloneName3_any (b g : ByteArray) (hb : b.size ≤ 100) (k : Int) (tv : Value) (hv : tv.oneCell' = true) (w : World) :
    Calls Try.prog 126 #[.agg #[.string b, .int .i64 k, tv, .string g, .int .i64 3]] w fun e w' => e = .returned (.string (nmB b 3)) ∧ Below w.heap.size w w' := by
  obtain ⟨W1, hW1⟩ : ∃ W1, w.alloc (.cells #[.string b, .int .i64 k, tv, .string g, .int .i64 3] 165) = W1 := ⟨_, rfl⟩
  have p0 : W1.cell? ⟨w.heap.size, 0, none⟩ = some (.string b) := by rw [← hW1]; simp [go_sem]
  have p4 : W1.cell? ⟨w.heap.size, 4, none⟩ = some (.int .i64 3) := by rw [← hW1]; simp [go_sem]
  have hB : Below w.heap.size w W1 := by rw [← hW1]; exact bnew _ _
  have DB := Lib.hid (fun W => digitByte_any 3 (by decide) W)
  have s1 : ¬ 9223372036854775807 < b.size + 1 := by omega
  have s2 : ¬ 9223372036854775807 < b.size + 1 + 1 := by omega
  have hcv : ∀ (n : Int) W, (convert 5 9 (.int .u8 n)).run Try.prog W = .ok (.string (Utf8.encode n)) W := fun n W => run_convert_int_string W _ _ _ _ (by kernel_rfl) Try.underlying9
  have he : Utf8.encode 51 = ⟨#[51]⟩ := by rfl
  have hdg : (((dgB 3).toNat : Nat) : Int) = 51 := rfl
  rw [hdg] at DB
  clear hb
  go_enter Try.func126, Try.ntmps126
  go_wp2
  clear hW1
  go_quiet (first | (go_at_call 173; exact quiet_eq (DB.out _)))
  go_wp2
  go_ret
  exact ⟨rfl, below_drewN hB _⟩
end Go.Proofs.Ytdgpjpcdifpllaa

/- CN24a:
  Names of the clones, and a clone at a place of the list. -/
namespace Go.Proofs.Ytdgpjpcdifpllaa
open Go.RowKit Go.Shelf
set_option linter.unusedVariables false
set_option linter.unusedSimpArgs false

def clName (p : Nat × Nat) : ByteArray := nmB (lnB p.1) p.2
def clFind (s : ByteArray) : Option (Nat × Nat) := (clTo 38).find? fun p => decide (clName p = s)
theorem clAll : ∀ p ∈ clTo 38, p.1 < 38 ∧ (p.2 = 2 ∨ p.2 = 3 ∨ p.2 = 9) := by decide
def gp (l : List (Nat × Nat)) (i : Nat) : Nat × Nat := l[i]?.getD (0, 0)
theorem gp_mem {l : List (Nat × Nat)} {i : Nat} (hi : i < l.length) : gp l i ∈ l := by
  unfold gp
  rw [List.getElem?_eq_getElem hi]
  exact List.getElem_mem hi
theorem gp_eq {l : List (Nat × Nat)} {i : Nat} (hi : i < l.length) : gp l i = l[i] := by
  unfold gp
  rw [List.getElem?_eq_getElem hi]
  rfl
theorem clC_get (TV : Nat → Value) : ∀ (l : List (Nat × Nat)) (i k : Nat) (hi : i < l.length), k < 5 → (clC TV l)[i * 5 + k]? = (clV TV (gp l i))[k]?
  | [], i, k, hi, hk => absurd hi (Nat.not_lt_zero _)
  | p :: l, 0, k, hi, hk => by
    unfold clC
    rw [List.flatMap_cons, List.getElem?_append_left (by show 0 * 5 + k < 5; omega)]
    rw [show 0 * 5 + k = k by omega]
    rfl
  | p :: l, i + 1, k, hi, hk => by
    have ih := clC_get TV l i k (by simpa using hi) hk
    unfold clC at ih ⊢
    rw [List.flatMap_cons, List.getElem?_append_right (by show 5 ≤ (i + 1) * 5 + k; omega)]
    rw [show (i + 1) * 5 + k - (clV TV p).length = i * 5 + k by show (i + 1) * 5 + k - 5 = _; omega]
    rw [ih]
    rfl
theorem add_at (g n : Nat) : (⟨g, 0, none⟩ : Addr).add n = ⟨g, n, none⟩ := by
  unfold Addr.add
  split <;> simp_all
theorem str_eq (a b : ByteArray) : (a.toList == b.toList) = decide (a = b) := by
  rw [Bool.eq_iff_iff, beq_iff_eq, decide_eq_true_eq]
  constructor
  · intro e
    apply ByteArray.ext
    apply Array.toList_inj.1
    rw [← Lib.toList_data, ← Lib.toList_data]
    exact e
  · intro e; rw [e]

end Go.Proofs.Ytdgpjpcdifpllaa

/- Q4:
  ClassesOf and IsComplete in both packages. -/
namespace Go.Proofs.Ytdgpjpcdifpllaa
open Go.RowKit

/-- The classes below k in which a list is. -/
def clsL (xs : List (Int × Int)) (k : Nat) : List Int := ((List.range k).filter fun j => bitN (comTo xs xs.length) j == 1).map fun (j : Nat) => (j : Int)
theorem clsL_yes (xs : List (Int × Int)) (k : Nat) (h : (bitN (comTo xs xs.length) k == 1) = true) : clsL xs (k + 1) = clsL xs k ++ [(k : Int)] := by simp only [clsL, List.range_succ, List.filter_append, List.map_append]; simp [h]
theorem clsL_no (xs : List (Int × Int)) (k : Nat) (h : (bitN (comTo xs xs.length) k == 1) = false) : clsL xs (k + 1) = clsL xs k := by simp only [clsL, List.range_succ, List.filter_append, List.map_append]; simp [h]
theorem clsL_len (xs : List (Int × Int)) (k : Nat) : (clsL xs k).length ≤ k := by
  unfold clsL
  rw [List.length_map]
  exact Nat.le_trans (List.length_filter_le _ _) (by simp)

theorem codeL_ok {xs : List (Int × Int)} (h : codeL xs = 0) : AreF xs ∧ xs.length ≤ 8 := by
  unfold codeL at h
  cases hA : allTo xs xs.length
  · rw [hA] at h; cases h
  · rw [hA, if_pos rfl] at h
    refine ⟨fun j hj => allTo_get hA j hj, ?_⟩
    apply Decidable.byContradiction
    intro h8
    rw [if_pos (by omega)] at h
    cases h
theorem codeL_ne {xs : List (Int × Int)} (h : codeL xs ≠ 0) : (codeL xs != 0) = true := by simpa using h

/-- What commonClasses answers behind classSetsOf of the same list. -/
theorem common_of {xs : List (Int × Int)} (hl : xs.length ≤ 1048576) (hx : AreF xs) {b : Nat} {D : DU} {base : Nat} {s : Value} (w : World) (h : OwnsF w base s xs) (hown : w.ownsMap Try.prog 23 (plainElem Try.prog 2) b xs.length D) (hD : MapOk D xs xs.length) :
    Calls Try.prog 234 #[.map (some b), s] w fun e w' => e = .returned (.int .i64 (comTo xs xs.length : Int)) ∧ Below w.heap.size w w' :=
  commonClasses_any hl b _ _ D xs w h hown hD (fun i hi => ⟨hx i hi, hD.2.1 i hi⟩)

theorem l02Classes_whole {base : Nat} {s : Value} {xs : List (Int × Int)} (hl : xs.length ≤ 1048576) (hx : AreF xs) (h8 : xs.length ≤ 8) (w : World) (h : OwnsF w base s xs) :
    Calls Try.prog 176 #[s, .int .i64 (wholeN xs.length : Int)] w fun e w' => e = .returned (.int .i64 (comTo xs xs.length : Int)) ∧ Below w.heap.size w w' := by
  have := l02Classes_any hl hx (wholeN xs.length) (whole_int _ (by omega)).2.2 (by omega) w h
  rwa [part_whole xs h8] at this

set_option maxRecDepth 100000 in
set_option maxHeartbeats 1000000 in
theorem isComplete_any {base : Nat} {s : Value} {xs : List (Int × Int)} (b : Nat) (w : World) {c : Nat} (h : Calls Try.prog 234 #[.map (some b), s] w fun e w' => e = .returned (.int .i64 (c : Int)) ∧ Below w.heap.size w w') (hs : OwnsF w base s xs) :
    Calls Try.prog 180 #[.map (some b), s] w fun e w' => e = .returned (.bool ((c : Int) == 0)) ∧ Below w.heap.size w w' := by
  have LC := Lib.hid h
  obtain ⟨a, cap, rfl, _⟩ := hs.cells
  clear h hs
  go_enter Try.func180, Try.ntmps180
  go_wp2_with (go_at_call 234; refine (LC.out).mono ?_; rintro e w2 ⟨rfl, hb2⟩)
  go_ret
  exact ⟨rfl, hb2⟩

end Go.Proofs.Ytdgpjpcdifpllaa

/- CN18:
  cloneNameOf and CloneName of the program. -/
namespace Go.Proofs.Ytdgpjpcdifpllaa
open Go.RowKit Go.Shelf
set_option linter.unusedVariables false
set_option linter.unusedSimpArgs false

def degOk (d : Nat) : Prop := d = 0 ∨ d = 1 ∨ d = 2 ∨ d = 3 ∨ d = 9
theorem dgT_ok (xs : List (Int × Int)) (c k : Nat) : degOk (dgT xs c k) := by
  induction k with
  | zero => exact .inr (.inr (.inr (.inr rfl)))
  | succ k ih =>
    have h2 : degOk (dgP (fget xs k) c) := degT_cases _ _
    unfold degOk at *
    rw [dgT]
    omega
/-- The name of a list with given traits. -/
def nmC (cm d0 d1 : Nat) : ByteArray := nmB (lnB (ixN cm d0 d1)) (degK d0 d1 (lnK (ixN cm d0 d1)))
def nmL (xs : List (Int × Int)) : ByteArray := nmC (cmT xs xs.length) (dgT xs 0 xs.length) (dgT xs 1 xs.length)
theorem lnB_size : ∀ j < 38, (lnB j).size ≤ 100 := by decide
theorem cloneName_any (b g : ByteArray) (hb : b.size ≤ 100) (k : Int) (tv : Value) (hv : tv.oneCell' = true) (d : Nat) (hd : d = 2 ∨ d = 3 ∨ d = 9) (w : World) :
    Calls Try.prog 126 #[.agg #[.string b, .int .i64 k, tv, .string g, .int .i64 (d : Int)]] w fun e w' => e = .returned (.string (nmB b d)) ∧ Below w.heap.size w w' := by
  rcases hd with rfl | rfl | rfl
  · exact cloneName2_any b g hb k tv hv w
  · exact cloneName3_any b g hb k tv hv w
  · exact cloneName9_any b g k tv hv w
theorem TestsM.one {W : World} {tv : Value} {ts : List Nat} (h : TestsM W tv ts) : tv.oneCell' = true := by
  obtain ⟨a, cap, rfl, _⟩ := h
  rfl

theorem step8 {W w' w : World} {a0 a1 a2 a3 a4 a5 a6 a7 : Addr} {v0 v1 v2 v3 v4 v5 v6 v7 : Value} (hb : Below W.heap.size W w') (h : (((W.cell? a0 = some v0 ∧ W.cell? a1 = some v1) ∧ (W.cell? a2 = some v2 ∧ W.cell? a3 = some v3)) ∧ ((W.cell? a4 = some v4 ∧ W.cell? a5 = some v5) ∧ (W.cell? a6 = some v6 ∧ W.cell? a7 = some v7))) ∧ Below w.heap.size w W) :
    (((w'.cell? a0 = some v0 ∧ w'.cell? a1 = some v1) ∧ (w'.cell? a2 = some v2 ∧ w'.cell? a3 = some v3)) ∧ ((w'.cell? a4 = some v4 ∧ w'.cell? a5 = some v5) ∧ (w'.cell? a6 = some v6 ∧ w'.cell? a7 = some v7))) ∧ Below w.heap.size w w' :=
  ⟨⟨⟨⟨kc hb h.1.1.1.1, kc hb h.1.1.1.2⟩, ⟨kc hb h.1.1.2.1, kc hb h.1.1.2.2⟩⟩, ⟨⟨kc hb h.1.2.1.1, kc hb h.1.2.1.2⟩, ⟨kc hb h.1.2.2.1, kc hb h.1.2.2.2⟩⟩⟩, bthen h.2 hb⟩

end Go.Proofs.Ytdgpjpcdifpllaa

/- O1:
  Formulas as trees, their texts, and the reading of a text. -/
namespace Go.Proofs.Ytdgpjpcdifpllaa

/-- How many places a byte has; none for a byte that is neither a gate nor a leaf. -/
def plc (c : UInt8) : Option Nat :=
  if c = 97 ∨ c = 98 ∨ c = 99 ∨ c = 100 ∨ c = 48 ∨ c = 49 then some 0 else if c = 33 then some 1 else if c = 38 ∨ c = 124 ∨ c = 94 then some 2 else if c = 63 ∨ c = 77 then some 3 else none
/-- Formulas. -/
inductive Fm where
  | leaf (c : UInt8)
  | one (c : UInt8) (a : Fm)
  | two (c : UInt8) (a b : Fm)
  | three (c : UInt8) (a b d : Fm)
def Fm.txt : Fm → List UInt8
  | .leaf c => [c]
  | .one c a => c :: a.txt
  | .two c a b => c :: (a.txt ++ b.txt)
  | .three c a b d => c :: (a.txt ++ (b.txt ++ d.txt))
/-- Every gate has as many formulas as it has places. -/
def Fm.wf : Fm → Prop
  | .leaf c => plc c = some 0
  | .one c a => plc c = some 1 ∧ a.wf
  | .two c a b => plc c = some 2 ∧ a.wf ∧ b.wf
  | .three c a b d => plc c = some 3 ∧ a.wf ∧ b.wf ∧ d.wf
theorem Fm.txt_pos (f : Fm) : 0 < f.txt.length := by cases f <;> simp [Fm.txt]
/-- The first formula of a text, and what is left. -/
def prs : Nat → List UInt8 → Option (Fm × List UInt8)
  | 0, _ => none
  | _ + 1, [] => none
  | n + 1, c :: l => match plc c with
    | some 0 => some (.leaf c, l)
    | some 1 => (prs n l).map fun p => (.one c p.1, p.2)
    | some 2 => (prs n l).bind fun p => (prs n p.2).map fun q => (.two c p.1 q.1, q.2)
    | some 3 => (prs n l).bind fun p => (prs n p.2).bind fun q => (prs n q.2).map fun r => (.three c p.1 q.1 r.1, r.2)
    | _ => none
theorem prs_sound : ∀ (n : Nat) (l : List UInt8) (f : Fm) (k : List UInt8), prs n l = some (f, k) → l = f.txt ++ k ∧ f.wf := by
  intro n
  induction n with
  | zero => intro l f k h; simp [prs] at h
  | succ n ih =>
    intro l f k h
    cases l with
    | nil => simp [prs] at h
    | cons c l =>
      simp only [prs] at h
      split at h
      · rename_i hc
        simp only [Option.some.injEq, Prod.mk.injEq] at h
        obtain ⟨rfl, rfl⟩ := h
        exact ⟨rfl, hc⟩
      · rename_i hc
        cases h1 : prs n l with
        | none => rw [h1] at h; simp at h
        | some p =>
          obtain ⟨a, l1⟩ := p
          rw [h1] at h
          simp only [Option.map_some, Option.some.injEq, Prod.mk.injEq] at h
          obtain ⟨rfl, rfl⟩ := h
          obtain ⟨e, w⟩ := ih l a l1 h1
          exact ⟨by rw [e]; rfl, hc, w⟩
      · rename_i hc
        cases h1 : prs n l with
        | none => rw [h1] at h; simp at h
        | some p =>
          obtain ⟨a, l1⟩ := p
          rw [h1] at h
          simp only [Option.bind_some] at h
          cases h2 : prs n l1 with
          | none => rw [h2] at h; simp at h
          | some q =>
            obtain ⟨b, l2⟩ := q
            rw [h2] at h
            simp only [Option.map_some, Option.some.injEq, Prod.mk.injEq] at h
            obtain ⟨rfl, rfl⟩ := h
            obtain ⟨e, w⟩ := ih l a l1 h1
            obtain ⟨e2, w2⟩ := ih l1 b l2 h2
            exact ⟨by rw [e, e2]; simp [Fm.txt], hc, w, w2⟩
      · rename_i hc
        cases h1 : prs n l with
        | none => rw [h1] at h; simp at h
        | some p =>
          obtain ⟨a, l1⟩ := p
          rw [h1] at h
          simp only [Option.bind_some] at h
          cases h2 : prs n l1 with
          | none => rw [h2] at h; simp at h
          | some q =>
            obtain ⟨b, l2⟩ := q
            rw [h2] at h
            simp only [Option.bind_some] at h
            cases h3 : prs n l2 with
            | none => rw [h3] at h; simp at h
            | some r =>
              obtain ⟨d, l3⟩ := r
              rw [h3] at h
              simp only [Option.map_some, Option.some.injEq, Prod.mk.injEq] at h
              obtain ⟨rfl, rfl⟩ := h
              obtain ⟨e, w⟩ := ih l a l1 h1
              obtain ⟨e2, w2⟩ := ih l1 b l2 h2
              obtain ⟨e3, w3⟩ := ih l2 d l3 h3
              exact ⟨by rw [e, e2, e3]; simp [Fm.txt], hc, w, w2, w3⟩
      · simp at h
theorem prs_full : ∀ (f : Fm), f.wf → ∀ (n : Nat) (k : List UInt8), f.txt.length ≤ n → prs n (f.txt ++ k) = some (f, k) := by
  intro f
  induction f with
  | leaf c =>
    intro h n k hn
    obtain ⟨n, rfl⟩ : ∃ n', n = n' + 1 := ⟨n - 1, by simp [Fm.txt] at hn; omega⟩
    simp only [Fm.wf] at h
    simp [Fm.txt, prs, h]
  | one c a iha =>
    intro h n k hn
    simp only [Fm.txt, List.length_cons] at hn
    obtain ⟨n, rfl⟩ : ∃ n', n = n' + 1 := ⟨n - 1, by omega⟩
    obtain ⟨hc, ha⟩ := h
    simp [Fm.txt, prs, hc, iha ha n k (by omega)]
  | two c a b iha ihb =>
    intro h n k hn
    simp only [Fm.txt, List.length_cons, List.length_append] at hn
    obtain ⟨n, rfl⟩ : ∃ n', n = n' + 1 := ⟨n - 1, by omega⟩
    obtain ⟨hc, ha, hb⟩ := h
    simp [Fm.txt, prs, hc, iha ha n (b.txt ++ k) (by omega), ihb hb n k (by omega)]
  | three c a b d iha ihb ihd =>
    intro h n k hn
    simp only [Fm.txt, List.length_cons, List.length_append] at hn
    obtain ⟨n, rfl⟩ : ∃ n', n = n' + 1 := ⟨n - 1, by omega⟩
    obtain ⟨hc, ha, hb, hd⟩ := h
    simp [Fm.txt, prs, hc, iha ha n (b.txt ++ (d.txt ++ k)) (by omega), ihb hb n (d.txt ++ k) (by omega), ihd hd n k (by omega)]
/-- The first formula of a text. -/
def rdF (l : List UInt8) : Option (Fm × List UInt8) := prs l.length l
theorem rdF_some {l : List UInt8} {f : Fm} {k : List UInt8} : rdF l = some (f, k) ↔ l = f.txt ++ k ∧ f.wf := by
  constructor
  · exact prs_sound _ _ _ _
  · rintro ⟨rfl, w⟩
    exact prs_full f w _ k (by simp)
theorem rdF_none {l : List UInt8} : rdF l = none ↔ ∀ (f : Fm) (k : List UInt8), l = f.txt ++ k → ¬ f.wf := by
  constructor
  · intro h f k e w
    rw [rdF_some.2 ⟨e, w⟩] at h
    cases h
  · intro h
    cases e : rdF l with
    | none => rfl
    | some p => exact absurd (rdF_some.1 e).2 (h _ _ (rdF_some.1 e).1)
/-- A fact about reading, a byte at a time. -/
theorem rdF_nil : rdF [] = none := rfl
theorem rdF_zero {c : UInt8} (h : plc c = some 0) (l : List UInt8) : rdF (c :: l) = some (.leaf c, l) := rdF_some.2 ⟨rfl, h⟩
theorem rdF_bad {c : UInt8} (h : plc c = none) (l : List UInt8) : rdF (c :: l) = none := by simp [rdF, prs, h]
theorem rdF_one {c : UInt8} (h : plc c = some 1) (l : List UInt8) : rdF (c :: l) = (rdF l).map fun p => (.one c p.1, p.2) := by
  cases e : rdF l with
  | none =>
    rw [Option.map_none, rdF_none]
    intro f k e2 w
    cases f <;> simp only [Fm.txt, Fm.wf, List.cons_append, List.cons.injEq] at e2 w
    all_goals obtain ⟨rfl, e2⟩ := e2
    all_goals simp [h] at w
    exact rdF_none.1 e _ k e2 w
  | some p =>
    obtain ⟨a, l1⟩ := p
    obtain ⟨rfl, w⟩ := rdF_some.1 e
    exact rdF_some.2 ⟨rfl, h, w⟩
theorem rdF_two {c : UInt8} (h : plc c = some 2) (l : List UInt8) : rdF (c :: l) = (rdF l).bind fun p => (rdF p.2).map fun q => (.two c p.1 q.1, q.2) := by
  cases e : rdF l with
  | none =>
    rw [Option.bind_none, rdF_none]
    intro f k e2 w
    cases f <;> simp only [Fm.txt, Fm.wf, List.cons_append, List.cons.injEq, List.append_assoc] at e2 w
    all_goals obtain ⟨rfl, e2⟩ := e2
    all_goals simp [h] at w
    exact rdF_none.1 e _ _ e2 w.1
  | some p =>
    obtain ⟨a, l1⟩ := p
    obtain ⟨rfl, wa⟩ := rdF_some.1 e
    rw [Option.bind_some]
    cases e3 : rdF l1 with
    | none =>
      rw [Option.map_none, rdF_none]
      intro f k e2 w
      cases f <;> simp only [Fm.txt, Fm.wf, List.cons_append, List.cons.injEq, List.append_assoc] at e2 w
      all_goals obtain ⟨rfl, e2⟩ := e2
      all_goals simp [h] at w
      have h1 := rdF_some.2 ⟨e2, w.1⟩
      rw [h1] at e
      cases e
      exact rdF_none.1 e3 _ _ rfl w.2
    | some q =>
      obtain ⟨b, l2⟩ := q
      obtain ⟨rfl, wb⟩ := rdF_some.1 e3
      exact rdF_some.2 ⟨by simp [Fm.txt], h, wa, wb⟩
theorem rdF_three {c : UInt8} (h : plc c = some 3) (l : List UInt8) : rdF (c :: l) = (rdF l).bind fun p => (rdF p.2).bind fun q => (rdF q.2).map fun r => (.three c p.1 q.1 r.1, r.2) := by
  cases e : rdF l with
  | none =>
    rw [Option.bind_none, rdF_none]
    intro f k e2 w
    cases f <;> simp only [Fm.txt, Fm.wf, List.cons_append, List.cons.injEq, List.append_assoc] at e2 w
    all_goals obtain ⟨rfl, e2⟩ := e2
    all_goals simp [h] at w
    exact rdF_none.1 e _ _ e2 w.1
  | some p =>
    obtain ⟨a, l1⟩ := p
    obtain ⟨rfl, wa⟩ := rdF_some.1 e
    rw [Option.bind_some]
    cases e3 : rdF l1 with
    | none =>
      rw [Option.bind_none, rdF_none]
      intro f k e2 w
      cases f <;> simp only [Fm.txt, Fm.wf, List.cons_append, List.cons.injEq, List.append_assoc] at e2 w
      all_goals obtain ⟨rfl, e2⟩ := e2
      all_goals simp [h] at w
      have h1 := rdF_some.2 ⟨e2, w.1⟩
      rw [h1] at e
      cases e
      exact rdF_none.1 e3 _ _ rfl w.2.1
    | some q =>
      obtain ⟨b, l2⟩ := q
      obtain ⟨rfl, wb⟩ := rdF_some.1 e3
      rw [Option.bind_some]
      cases e4 : rdF l2 with
      | none =>
        rw [Option.map_none, rdF_none]
        intro f k e2 w
        cases f <;> simp only [Fm.txt, Fm.wf, List.cons_append, List.cons.injEq, List.append_assoc] at e2 w
        all_goals obtain ⟨rfl, e2⟩ := e2
        all_goals simp [h] at w
        have h1 := rdF_some.2 ⟨e2, w.1⟩
        rw [h1] at e
        have e5 := (Prod.mk.inj (Option.some.inj e)).2
        have h2 := rdF_some.2 ⟨e5.symm, w.2.1⟩
        rw [h2] at e3
        have e6 := (Prod.mk.inj (Option.some.inj e3)).2
        exact rdF_none.1 e4 _ _ e6.symm w.2.2
      | some r =>
        obtain ⟨d, l3⟩ := r
        obtain ⟨rfl, wd⟩ := rdF_some.1 e4
        exact rdF_some.2 ⟨by simp [Fm.txt], h, wa, wb, wd⟩
end Go.Proofs.Ytdgpjpcdifpllaa

/- O2:
  Formulas in the model: places of bytes, the end of a formula, what is a formula. -/
namespace Go.Proofs.Ytdgpjpcdifpllaa
open Go.RowKit
set_option linter.unusedVariables false
set_option linter.unusedSimpArgs false

/-- The places, -1 for a byte that is none. -/
def plI (c : UInt8) : Int := match plc c with | some k => (k : Int) | none => -1
def plZ (z : Int) : Int := if z = 97 ∨ z = 98 ∨ z = 99 ∨ z = 100 ∨ z = 48 ∨ z = 49 then 0 else if z = 33 then 1 else if z = 38 ∨ z = 124 ∨ z = 94 then 2 else if z = 63 ∨ z = 77 then 3 else -1
theorem plI_all : ∀ k < 256, plI (UInt8.ofNat k) = plZ ((k : Nat) : Int) := by decide +kernel
theorem plI_is (c : UInt8) : plI c = plZ (c.toNat : Int) := by
  have h := plI_all c.toNat (UInt8.toNat_lt c)
  rwa [UInt8.ofNat_toNat] at h
theorem plc_le {c : UInt8} {k : Nat} (h : plc c = some k) : k ≤ 3 := by
  unfold plc at h
  split at h
  · cases h; decide
  · split at h
    · cases h; decide
    · split at h
      · cases h; decide
      · split at h
        · cases h; decide
        · cases h
theorem plI_some {c : UInt8} {k : Nat} (h : plc c = some k) : plI c = (k : Int) := by unfold plI; rw [h]
theorem plI_none {c : UInt8} (h : plc c = none) : plI c = -1 := by unfold plI; rw [h]
/-- Where j formulas end that begin at a place. -/
def rdK (s : ByteArray) : Nat → Nat → Option Nat
  | 0, a => some a
  | j + 1, a => match rdF (s.data.toList.drop a) with
    | some p => rdK s j (a + p.1.txt.length)
    | none => none
/-- Where the formula ends that begins at a place. -/
def endI (s : ByteArray) (a : Nat) : Int := match rdF (s.data.toList.drop a) with
  | some p => ((a + p.1.txt.length : Nat) : Int)
  | none => -1
def endK (o : Option Nat) : Int := match o with
  | some e => (e : Int)
  | none => -1
theorem drop_rest {l : List UInt8} {a : Nat} {f : Fm} {k : List UInt8} (h : l.drop a = f.txt ++ k) : k = l.drop (a + f.txt.length) := by
  rw [← List.drop_drop, h, List.drop_left]
theorem rdF_le {s : ByteArray} {a : Nat} {p : Fm × List UInt8} (h : rdF (s.data.toList.drop a) = some p) : a + p.1.txt.length ≤ s.size := by
  have h1 := (rdF_some.1 h).1
  have h2 := congrArg List.length h1
  have h3 := p.1.txt_pos
  rw [List.length_drop, List.length_append, Array.length_toList] at h2
  have : s.data.size = s.size := rfl
  omega
theorem endI_byte {s : ByteArray} {a : Nat} {c : UInt8} {K : Nat} (h : s.data.toList.drop a = c :: s.data.toList.drop (a + 1)) (hc : plc c = some K) : endI s a = endK (rdK s K (a + 1)) := by
  have hk := plc_le hc
  unfold endI
  rw [h]
  rcases (show K = 0 ∨ K = 1 ∨ K = 2 ∨ K = 3 by omega) with rfl | rfl | rfl | rfl
  · rw [rdF_zero hc]; rfl
  · rw [rdF_one hc]
    simp only [rdK]
    cases e : rdF (s.data.toList.drop (a + 1)) with
    | none => rfl
    | some p => simp only [Option.map_some, endK, Fm.txt, List.length_cons]; omega
  · rw [rdF_two hc]
    simp only [rdK]
    cases e : rdF (s.data.toList.drop (a + 1)) with
    | none => rfl
    | some p =>
      have e1 := drop_rest (rdF_some.1 e).1
      simp only [Option.bind_some]
      rw [← e1]
      cases e2 : rdF p.2 with
      | none => rfl
      | some q => simp only [Option.map_some, endK, Fm.txt, List.length_cons, List.length_append]; omega
  · rw [rdF_three hc]
    simp only [rdK]
    cases e : rdF (s.data.toList.drop (a + 1)) with
    | none => rfl
    | some p =>
      have e1 := drop_rest (rdF_some.1 e).1
      simp only [Option.bind_some]
      rw [← e1]
      cases e2 : rdF p.2 with
      | none => rfl
      | some q =>
        have e3 := drop_rest (show s.data.toList.drop (a + 1 + p.1.txt.length) = q.1.txt ++ q.2 by rw [← e1]; exact (rdF_some.1 e2).1)
        simp only [Option.bind_some]
        rw [← e3]
        cases e4 : rdF q.2 with
        | none => rfl
        | some r => simp only [Option.map_some, endK, Fm.txt, List.length_cons, List.length_append]; omega
theorem drop_byte (s : ByteArray) (a : Nat) (h : a < s.size) : s.data.toList.drop a = s[a] :: s.data.toList.drop (a + 1) := by
  rw [List.drop_eq_getElem_cons (by rw [Array.length_toList]; exact h)]
  rfl
end Go.Proofs.Ytdgpjpcdifpllaa

/- O3:
  Formulas in the model: what is a formula, sizes, parts; lists of texts of the call's own. -/
namespace Go.Proofs.Ytdgpjpcdifpllaa
open Go.RowKit
set_option linter.unusedVariables false
set_option linter.unusedSimpArgs false

/-- Is a text a formula? -/
def isFm (s : ByteArray) : Bool := decide (1 ≤ s.size) && (decide (s.size ≤ 60) && (endI s 0 == (s.size : Int)))
theorem isFm_iff {s : ByteArray} : isFm s = true ↔ s.size ≤ 60 ∧ ∃ f : Fm, f.wf ∧ s.data.toList = f.txt := by
  have hl : s.data.toList.length = s.size := Array.length_toList
  unfold isFm endI
  simp only [Bool.and_eq_true, decide_eq_true_eq, beq_iff_eq, List.drop_zero, Nat.zero_add]
  constructor
  · rintro ⟨h1, h2, h3⟩
    refine ⟨h2, ?_⟩
    cases e : rdF s.data.toList with
    | none =>
      rw [e] at h3
      have h5 : (-1 : Int) = (s.size : Int) := h3
      omega
    | some p =>
      rw [e] at h3
      obtain ⟨e1, w⟩ := rdF_some.1 (show rdF s.data.toList = some (p.1, p.2) from e)
      have h4 := congrArg List.length e1
      rw [List.length_append, hl] at h4
      have h5 : (p.1.txt.length : Int) = (s.size : Int) := h3
      have h6 : p.2 = [] := List.eq_nil_of_length_eq_zero (by omega)
      exact ⟨p.1, w, by rw [e1, h6, List.append_nil]⟩
  · rintro ⟨h2, f, w, e⟩
    have e1 : rdF s.data.toList = some (f, []) := rdF_some.2 ⟨by rw [e, List.append_nil], w⟩
    have hp := f.txt_pos
    have h4 := congrArg List.length e
    rw [hl] at h4
    rw [e1]
    exact ⟨by omega, h2, by show (f.txt.length : Int) = _; omega⟩
/-- The gates among the first bytes. -/
def gts (l : List UInt8) : Nat := l.countP fun c => decide (0 < plI c)
theorem gts_take (s : ByteArray) (k : Nat) (h : k < s.size) : gts (s.data.toList.take (k + 1)) = gts (s.data.toList.take k) + if 0 < plI s[k] then 1 else 0 := by
  unfold gts
  rw [List.take_succ_eq_append_getElem (by rw [Array.length_toList]; exact h), List.countP_append]
  congr 1
  show List.countP _ [s[k]] = _
  by_cases hp : 0 < plI s[k]
  · simp [hp]
  · simp [hp]
theorem gts_le (l : List UInt8) : gts l ≤ l.length := List.countP_le_length
/-- A list of texts of the call's own. -/
def strs (xs : List ByteArray) : List Value := xs.map Value.string
def OwnsS (W : World) (base : Nat) (s : Value) (xs : List ByteArray) : Prop := W.ownsRow base 9 1 s xs.length (strs xs)
theorem OwnsS.below {W W' : World} {base : Nat} {s : Value} {xs : List ByteArray} (h : OwnsS W base s xs) (hb : Below W.heap.size W W') : OwnsS W' base s xs := by
  obtain ⟨h1, h2 | ⟨g, cap, cur, e1, e2, e3, r⟩⟩ := h
  · exact ⟨h1, .inl h2⟩
  · exact ⟨h1, .inr ⟨g, cap, cur, e1, e2, (hb.block g (Array.getElem?_eq_some_iff.1 e3).1).trans e3, r⟩⟩
theorem OwnsS.mono {W : World} {b1 b2 : Nat} {s : Value} {xs : List ByteArray} (h : OwnsS W b1 s xs) (hb : b2 ≤ b1) : OwnsS W b2 s xs := by
  obtain ⟨h1, h2 | ⟨g, cap, cur, e1, e2, e3, r⟩⟩ := h
  · exact ⟨h1, .inl h2⟩
  · exact ⟨h1, .inr ⟨g, cap, cur, e1, Nat.le_trans hb e2, e3, r⟩⟩
theorem OwnsS.form {W : World} {base : Nat} {s : Value} {xs : List ByteArray} (h : OwnsS W base s xs) : ∃ a cap, s = .slice a xs.length cap ∧ (0 < xs.length → ∃ g, a = some ⟨g, 0, none⟩ ∧ g < W.heap.size ∧ ∀ j (hj : j < xs.length), W.cell? ⟨g, j, none⟩ = some (.string xs[j])) := by
  rcases h.2 with ⟨e, h0⟩ | ⟨g, cap, cur, rfl, hb, hg, _⟩
  · exact ⟨none, 0, by rw [e, h0], fun hp => by omega⟩
  · refine ⟨_, cap, rfl, fun hp => ⟨g, rfl, (Array.getElem?_eq_some_iff.1 hg).1, fun j hj => ?_⟩⟩
    have := World.ownsRow.cellAt h j (by omega)
    rw [this]
    simp [strs, hj]
theorem strs_snoc (xs : List ByteArray) (x : ByteArray) : strs (xs ++ [x]) = strs xs ++ [.string x] := by simp [strs]
theorem infoStr : (Try.prog.info? 9).map (fun i => (i.zero, i.size, i.bytes)) = some (some (.string ⟨#[]⟩), 1, 16) := by kernel_rfl
theorem one_cell_str (x : ByteArray) : ∀ u ∈ [Value.string x], u.oneCell' = true := by intro u hu; simp at hu; subst hu; rfl
/-- The formulas at the places. -/
def Fm.kids : Fm → List Fm
  | .leaf _ => []
  | .one _ a => [a]
  | .two _ a b => [a, b]
  | .three _ a b d => [a, b, d]
def Fm.head : Fm → UInt8
  | .leaf c => c
  | .one c _ => c
  | .two c _ _ => c
  | .three c _ _ _ => c
theorem Fm.txt_kids (f : Fm) : f.txt = f.head :: (f.kids.map Fm.txt).flatten := by cases f <;> simp [Fm.txt, Fm.head, Fm.kids]
theorem Fm.kids_wf {f : Fm} (h : f.wf) : ∀ g ∈ f.kids, g.wf := by
  cases f <;> simp [Fm.kids, Fm.wf] at *
  · exact h.2
  · exact ⟨h.2.1, h.2.2⟩
  · exact ⟨h.2.1, h.2.2.1, h.2.2.2⟩
theorem Fm.kids_lt {f : Fm} : ∀ g ∈ f.kids, g.txt.length < f.txt.length := by
  cases f <;> simp [Fm.kids, Fm.txt] <;> omega
/-- A text as bytes. -/
def Fm.bytes (f : Fm) : ByteArray := ⟨f.txt.toArray⟩
theorem Fm.bytes_list (f : Fm) : f.bytes.data.toList = f.txt := by simp [Fm.bytes]
theorem Fm.bytes_size (f : Fm) : f.bytes.size = f.txt.length := by show f.txt.toArray.size = _; simp
theorem bytes_of {s : ByteArray} {f : Fm} (h : s.data.toList = f.txt) : s = f.bytes := by
  apply ByteArray.ext
  unfold Fm.bytes
  rw [← h]
/-- Where the kid j begins. -/
def Fm.pos (f : Fm) (j : Nat) : Nat := 1 + ((f.kids.take j).map Fm.txt).flatten.length
theorem Fm.pos_drop (f : Fm) (j : Nat) : f.txt.drop (f.pos j) = ((f.kids.drop j).map Fm.txt).flatten := by
  rw [f.txt_kids]
  unfold Fm.pos
  rw [Nat.add_comm, List.drop_succ_cons]
  conv => lhs; arg 2; rw [← List.take_append_drop j f.kids]
  rw [List.map_append, List.flatten_append, List.drop_left]
theorem Fm.pos_succ (f : Fm) (j : Nat) (h : j < f.kids.length) : f.pos (j + 1) = f.pos j + (f.kids[j]).txt.length := by
  unfold Fm.pos
  rw [List.take_succ_eq_append_getElem h, List.map_append, List.flatten_append, List.length_append, ← Nat.add_assoc]
  simp only [List.map_cons, List.map_nil, List.flatten_cons, List.flatten_nil, List.append_nil]
theorem Fm.pos_all (f : Fm) : f.pos f.kids.length = f.txt.length := by
  unfold Fm.pos
  rw [List.take_length, f.txt_kids, List.length_cons]
  omega
theorem Fm.pos_le (f : Fm) (j : Nat) (h : j < f.kids.length) : f.pos j + (f.kids[j]).txt.length ≤ f.txt.length := by
  have h1 := f.pos_drop j
  rw [List.drop_eq_getElem_cons h, List.map_cons, List.flatten_cons] at h1
  have h2 := congrArg List.length h1
  rw [List.length_drop, List.length_append] at h2
  have h3 := (f.kids[j]).txt_pos
  omega
theorem Fm.pos_end {f : Fm} (w : f.wf) (j : Nat) (h : j < f.kids.length) : endI f.bytes (f.pos j) = ((f.pos (j + 1) : Nat) : Int) := by
  unfold endI
  rw [f.bytes_list, f.pos_drop, List.drop_eq_getElem_cons h, List.map_cons, List.flatten_cons, rdF_some.2 ⟨rfl, Fm.kids_wf w _ (List.getElem_mem h)⟩, f.pos_succ j h]
theorem Fm.pos_part (f : Fm) (j : Nat) (h : j < f.kids.length) : f.bytes.extract (f.pos j) (f.pos (j + 1)) = (f.kids[j]).bytes := by
  apply bytes_of
  have e : (f.bytes.extract (f.pos j) (f.pos (j + 1))).data.toList = (f.bytes.data.toList.drop (f.pos j)).take (f.pos (j + 1) - f.pos j) := by
    rw [ByteArray.data_extract, Array.toList_extract]
  rw [e, f.bytes_list, f.pos_drop, List.drop_eq_getElem_cons h, List.map_cons, List.flatten_cons, f.pos_succ j h, Nat.add_sub_cancel_left, List.take_left]
/-- The texts of the kids. -/
def Fm.partsTo (f : Fm) (j : Nat) : List ByteArray := (f.kids.take j).map Fm.bytes
theorem Fm.partsTo_succ (f : Fm) (j : Nat) (h : j < f.kids.length) : f.partsTo (j + 1) = f.partsTo j ++ [(f.kids[j]).bytes] := by
  unfold Fm.partsTo
  rw [List.take_succ_eq_append_getElem h, List.map_append]
  rfl
theorem Fm.partsTo_len (f : Fm) (j : Nat) (h : j ≤ f.kids.length) : (f.partsTo j).length = j := by simp [Fm.partsTo, h]
theorem Fm.kids_le (f : Fm) : f.kids.length ≤ 3 := by cases f <;> simp [Fm.kids]
def PartsPost (f : Fm) (w : World) (e : Ending) (w' : World) : Prop := ∃ s, e = .returned s ∧ OwnsS w' w.heap.size s (f.kids.map Fm.bytes) ∧ Below w.heap.size w w'
end Go.Proofs.Ytdgpjpcdifpllaa

/- CN41:
  CloneNames of the program, where sorting is given as a contract. -/
namespace Go.Proofs.Ytdgpjpcdifpllaa
open Go.RowKit Go.Shelf
set_option linter.unusedVariables false
set_option linter.unusedSimpArgs false

/-- The names in the clones' order. -/
def nmAll : List ByteArray := (clTo 38).map clName
theorem nmAll_take {cl : List (Nat × Nat)} {i : Nat} (hi : i < cl.length) : (cl.take (i + 1)).map clName = (cl.take i).map clName ++ [clName (gp cl i)] := by
  rw [List.take_succ_eq_append_getElem hi, List.map_append, gp_eq hi]
  rfl
theorem cell_str_new (W : World) (a : ByteArray) (t : TypeId) : ∀ (j : Nat) (u : Value), [Value.string a][j]? = some u → (W.alloc (.cells #[.string a] t)).cell? ((⟨W.heap.size, 0, none⟩ : Addr).add j) = some u := by
  intro j u h
  match j, h with
  | 0, h => simp at h; subst h; simp [go_sem, Addr.add]

set_option maxRecDepth 100000 in
set_option maxHeartbeats 8000000 in
theorem implCloneNames_any (srt : List ByteArray) (hS : ∀ W base v, OwnsS W base v nmAll → Calls Try.prog 127 #[v] W fun e w' => e = .returned (.tuple #[]) ∧ OwnsS w' base v srt ∧ W.grownBy w' v.ownBlock) (w : World) :
    Calls Try.prog 59 #[] w fun e w' => ∃ v, e = .returned v ∧ OwnsS w' w.heap.size v srt ∧ Below w.heap.size w w' := by
  obtain ⟨i0, hi, hz0, hz1, hz2⟩ := info_parts infoStr
  have NC := Lib.hid (fun W => namedClones_any W)
  have HCA := Lib.hid clAll
  have hlen := clTo_all
  have HS := Lib.hid hS
  have HNA : Hid ((clTo 38).map clName = nmAll) := Lib.hid rfl
  generalize nmAll = na at HS HNA hS
  clear hS
  have HCG : Hid (∀ TV (i k : Nat) (hi : i < (clTo 38).length), k < 5 → (clC TV (clTo 38))[i * 5 + k]? = (clV TV (gp (clTo 38) i))[k]?) := Lib.hid fun TV i k hi hk => clC_get TV _ i k hi hk
  generalize clTo 38 = cl at NC HCA HCG hlen HNA
  have HLEN := Lib.hid hlen
  have HT : Hid (∀ i, i < cl.length → (cl.take (i + 1)).map clName = (cl.take i).map clName ++ [clName (gp cl i)]) := Lib.hid fun i hi => nmAll_take hi
  have HTL : Hid (∀ i, i ≤ cl.length → ((cl.take i).map clName).length = i) := Lib.hid fun i hi => by rw [List.length_map, List.length_take]; omega
  have HTA : Hid ((cl.take cl.length).map clName = na) := Lib.hid (by rw [List.take_of_length_le (Nat.le_refl _)]; exact HNA.out)
  have HT0 : Hid ((cl.take 0).map clName = []) := Lib.hid rfl
  clear hlen HNA
  go_enter Try.func59, Try.ntmps59
  go_wp2_with (go_at_call 125; refine (NC.out _).mono ?_; rintro e w1 ⟨v, TV, rfl, hrow, hTV, hb1⟩; obtain ⟨g, cap, rfl⟩ := ownsRow_succ hrow)
  have HROW := Lib.hid hrow
  have HTV := Lib.hid hTV
  clear hrow hTV
  go_loopw [1, 6] (fun sv i' wr => ∃ i : Nat, i ≤ 54 ∧ i' = .int .i64 i ∧ OwnsS wr w1.heap.size sv ((cl.take i).map clName) ∧ Below w1.heap.size w1 wr) (fun _ i' _ => 54 - (intOf i').toNat)
  case atStart => exact ⟨0, Nat.zero_le _, rfl, by rw [HT0.out]; exact World.ownsRow_nil _ _ _ _, Below.refl _ _⟩
  case round =>
    obtain ⟨i, hi54, rfl, hO, hN⟩ := hrel
    by_cases hlt : i < 54
    · have hil : i < cl.length := by rw [HLEN.out]; exact hlt
      obtain ⟨hp38, hpd⟩ := HCA.out _ (gp_mem hil)
      obtain ⟨ta, tn, tc, htv⟩ := HTV.out _ hp38
      have HG : Hid (∀ k u, k < 5 → (clV TV (gp cl i))[k]? = some u → wr.cell? ⟨g, i * 5 + k, none⟩ = some u) := Lib.hid fun k u hk hu => kc hN (by have h := HROW.out.cells rfl (i * 5 + k) u (by rw [HCG.out TV i k hil hk]; exact hu); rw [show ({ block := (⟨g, 0, none⟩ : Addr).block, off := 0 } : Addr) = ⟨g, 0, none⟩ from rfl, add_at] at h; exact h)
      have HT1 := Lib.hid (HT.out i hil)
      have hl := HTL.out i (Nat.le_of_lt hil)
      have c0 := HG.out 0 _ (by decide) rfl
      have c1 := HG.out 1 _ (by decide) rfl
      have c2 := HG.out 2 _ (by decide) rfl
      have c3 := HG.out 3 _ (by decide) rfl
      have c4 := HG.out 4 _ (by decide) rfl
      rw [htv] at c2
      rw [Nat.add_zero] at c0
      have NM := Lib.hid (fun W => cloneName_any (lnB (gp cl i).1) (lnG (gp cl i).1) (lnB_size _ hp38) (lnK (gp cl i).1 : Int) (.slice ta tn tc) rfl (gp cl i).2 hpd W)
      rw [show nmB (lnB (gp cl i).1) (gp cl i).2 = clName (gp cl i) from rfl] at NM
      generalize clName (gp cl i) = nm at NM HT1
      generalize lnB (gp cl i).1 = lb at c0 NM
      generalize lnG (gp cl i).1 = lg at c3 NM
      generalize (lnK (gp cl i).1 : Int) = lk at c1 NM
      generalize ((gp cl i).2 : Int) = ld at c4 NM
      have hO2 : wr.ownsRow w1.heap.size 9 1 u1 i (strs ((cl.take i).map clName)) := by
        have := hO
        unfold OwnsS at this
        rwa [hl] at this
      have hN' := balloc hN (.cells #[.string lb, .int .i64 lk, .slice ta tn tc, .string lg, .int .i64 ld] 165)
      have HO2 := Lib.hid (hO2.alloc (.cells #[.string lb, .int .i64 lk, .slice ta tn tc, .string lg, .int .i64 ld] 165))
      clear hO hO2 HG htv hpd hp38
      have hsz := hN'.size
      go_wp2_with (first
        | (go_at_call 126; refine (NM.out _).mono ?_; rintro e w4 ⟨rfl, hb4⟩; have hO4 : World.ownsRow _ _ _ _ _ _ _ := owns_below HO2.out hb4; have hN4 := bthen hN' hb4; have hs4 := hN4.size)
        | (at_builtin; refine wpList_append_own _ rfl _ _ 87 rfl w1.heap.size 9 i0 (.string ⟨#[]⟩) 1 16 Try.underlying87 hi hz0 hz1 hz2 rfl (by decide) _ _ _ rfl (hO4.alloc _) ⟨w4.heap.size, 0, none⟩ 1 1 [.string nm] rfl rfl (cell_str_new _ _ _) (one_cell_str _) (by unfold maxLen; omega) (by omega) (by simp; omega) ?_))
      intro v' w5 hO5 hg5 _
      have hN5 := (balloc hN4 (.cells #[.string nm] 9)).grown hg5 (by simp; omega) (fun j e => (hO4.lt j e).1)
      have HO5 : Hid (OwnsS w5 w1.heap.size v' ((cl.take (i + 1)).map clName)) := Lib.hid (by
        rw [HT1.out]
        unfold OwnsS
        rw [strs_snoc, List.length_append, hl, List.map_take]; exact hO5)
      clear hO4 hO5 hg5 hN4
      go_wp2
      go_roundw
      case rel => exact ⟨i + 1, by omega, by go_num, HO5.out, hN5⟩
      case measure => simp [intOf]; omega
    · obtain rfl : i = 54 := by omega
      have hTA := HTA.out
      rw [HLEN.out] at hTA
      rw [hTA] at hO
      have SO := Lib.hid (HS.out wr _ _ hO)
      have HO := Lib.hid hO
      obtain ⟨sa, sc, hsv, _⟩ := hO.form
      clear hO
      subst hsv
      go_wp2_with (go_at_call 127; refine (SO.out).mono ?_; rintro e w7 ⟨rfl, hO7, hg7⟩; have HO7 := Lib.hid hO7; clear hO7)
      go_ret
      exact ⟨_, rfl, row_mono HO7.out hb1.size, bthen hb1 (hN.grown hg7 hN.size (fun k e => (HO.out.lt k e).1))⟩
end Go.Proofs.Ytdgpjpcdifpllaa

/- SRT:
  Contracts of library functions at this program, cut out of what the guide's command lays. -/
namespace Go.Proofs
open Go.Shelf
def Try.lays190_ren : Go.Shelf.Ren := ⟨fun | 190 => 127 | 125 => 175 | 258 => 174 | 128 => 229 | 129 => 230 | 302 => 220 | 303 => 221 | 304 => 222 | 305 => 223 | 306 => 224 | 307 => 225 | 308 => 226 | 309 => 227 | 310 => 228 | 333 => 254 | 329 => 255 | 330 => 256 | 334 => 257 | 335 => 258 | 336 => 259 | 344 => 275 | n => n, fun | 31 => 87 | 9 => 9 | 3 => 3 | 46 => 199 | 0 => 0 | 51 => 258 | 53 => 66 | 4 => 4 | 183 => 250 | 182 => 249 | 131 => 255 | 5 => 5 | 218 => 277 | 222 => 281 | 228 => 291 | 229 => 292 | n => n, fun | n => n⟩
theorem Try.lays190 : Go.Proofs.Lays.n190 Try.prog Try.lays190_ren := {
  mixed := by kernel_rfl
  f125 := Try.func175.trans (congrArg some (by kernel_rfl))
  f128 := Try.func229.trans (congrArg some (by kernel_rfl))
  f129 := Try.func230.trans (congrArg some (by kernel_rfl))
  f190 := Try.func127.trans (congrArg some (by kernel_rfl))
  f258 := Try.func174.trans (congrArg some (by kernel_rfl))
  f302 := Try.func220.trans (congrArg some (by kernel_rfl))
  f303 := Try.func221.trans (congrArg some (by kernel_rfl))
  f304 := Try.func222.trans (congrArg some (by kernel_rfl))
  f305 := Try.func223.trans (congrArg some (by kernel_rfl))
  f306 := Try.func224.trans (congrArg some (by kernel_rfl))
  f307 := Try.func225.trans (congrArg some (by kernel_rfl))
  f308 := Try.func226.trans (congrArg some (by kernel_rfl))
  f309 := Try.func227.trans (congrArg some (by kernel_rfl))
  f310 := Try.func228.trans (congrArg some (by kernel_rfl))
  f329 := Try.func255.trans (congrArg some (by kernel_rfl))
  f330 := Try.func256.trans (congrArg some (by kernel_rfl))
  f333 := Try.func254.trans (congrArg some (by kernel_rfl))
  f334 := Try.func257.trans (congrArg some (by kernel_rfl))
  f335 := Try.func258.trans (congrArg some (by kernel_rfl))
  f336 := Try.func259.trans (congrArg some (by kernel_rfl))
  f344 := Try.func275.trans (congrArg some (by kernel_rfl))
  t0 := Try.underlying0
  a0 := Try.isAgg0
  z0 := Try.sizeOf0
  v0 := Try.zeroValue0
  t3 := Try.underlying3
  a3 := Try.isAgg3
  z3 := Try.sizeOf3
  v3 := Try.zeroValue3
  t4 := Try.underlying4
  a4 := Try.isAgg4
  z4 := Try.sizeOf4
  v4 := Try.zeroValue4
  t5 := Try.underlying5
  a5 := Try.isAgg5
  z5 := Try.sizeOf5
  v5 := Try.zeroValue5
  t9 := Try.underlying9
  a9 := Try.isAgg9
  z9 := Try.sizeOf9
  v9 := Try.zeroValue9
  t31 := Try.underlying87
  a31 := Try.isAgg87
  z31 := Try.sizeOf87
  v31 := Try.zeroValue87
  t46 := Try.underlying199
  a46 := Try.isAgg199
  z46 := Try.sizeOf199
  v46 := Try.zeroValue199
  t51 := Try.underlying258
  a51 := Try.isAgg258
  z51 := Try.sizeOf258
  v51 := Try.zeroValue258
  t53 := Try.underlying66
  a53 := Try.isAgg66
  z53 := Try.sizeOf66
  v53 := Try.zeroValue66
  t131 := Try.underlying255
  a131 := Try.isAgg255
  z131 := Try.sizeOf255
  v131 := Try.zeroValue255
  t182 := Try.underlying249
  a182 := Try.isAgg249
  z182 := Try.sizeOf249
  v182 := Try.zeroValue249
  t183 := Try.underlying250
  a183 := Try.isAgg250
  z183 := Try.sizeOf250
  v183 := Try.zeroValue250
  t218 := Try.underlying277
  a218 := Try.isAgg277
  z218 := Try.sizeOf277
  v218 := Try.zeroValue277
  t222 := Try.underlying281
  a222 := Try.isAgg281
  z222 := Try.sizeOf281
  v222 := Try.zeroValue281
  t228 := Try.underlying291
  a228 := Try.isAgg291
  z228 := Try.sizeOf291
  v228 := Try.zeroValue291
  t229 := Try.underlying292
  a229 := Try.isAgg292
  z229 := Try.sizeOf292
  v229 := Try.zeroValue292 }
open Go.Sort Go.RowKit in
theorem Try.slices_Sort_string (blk off cap : Nat) (ss : List (List UInt8)) (w : World) (hH : Holds encStr w blk off ss.toArray) (hblk : blk < w.heap.size) (hsz : ss.length < 4611686018427387904) :
    Calls Try.prog 127 #[.slice (some ⟨blk, off, none⟩) ss.length cap] w fun e w' =>
      e = .returned (.tuple #[]) ∧ ∃ n os, w' = grow (putRow encStr (Sort.ahead w n) blk off (ss.mergeSort fun x y => decide (x ≤ y)).toArray) os := Any.slices_Sort_string Try.lays190 blk off cap ss w hH hblk hsz
end Go.Proofs

/- CN42:
  CloneNames of the program: the names, sorted. -/
namespace Go.Proofs.Ytdgpjpcdifpllaa
open Go.RowKit Go.Shelf Go.Sort
set_option linter.unusedVariables false
set_option linter.unusedSimpArgs false

/-- All names in bytewise order. -/
def srtL : List (List UInt8) := [[66, 70], [68], [68, 49], [68, 50], [69], [69, 48], [69, 49], [69, 50], [73], [73, 48], [73, 49], [73, 50], [76], [76, 48], [76, 49], [76, 50], [76, 51], [77], [77, 48], [77, 49], [77, 50], [78], [78, 50], [82, 48], [82, 49], [82, 50], [83, 48], [83, 48, 48], [83, 48, 48, 94, 50], [83, 48, 48, 94, 51], [83, 48, 49], [83, 48, 49, 94, 50], [83, 48, 49, 94, 51], [83, 48, 50], [83, 48, 50, 94, 50], [83, 48, 50, 94, 51], [83, 48, 94, 50], [83, 48, 94, 51], [83, 49], [83, 49, 48], [83, 49, 48, 94, 50], [83, 49, 48, 94, 51], [83, 49, 49], [83, 49, 49, 94, 50], [83, 49, 49, 94, 51], [83, 49, 50], [83, 49, 50, 94, 50], [83, 49, 50, 94, 51], [83, 49, 94, 50], [83, 49, 94, 51], [86], [86, 48], [86, 49], [86, 50]]
def srtB : List ByteArray := srtL.map fun l => ⟨l.toArray⟩
def rawL : List (List UInt8) := nmAll.map fun b => b.data.toList
set_option maxRecDepth 100000 in
theorem srt_perm : rawL.isPerm srtL = true := by decide +kernel
set_option maxRecDepth 100000 in
theorem srt_sorted : srtL.Pairwise (fun a b => decide (a ≤ b) = true) := by decide +kernel
theorem raw_sorted : (rawL.mergeSort fun x y => decide (x ≤ y)) = srtL := by
  have tr : ∀ a b c : List UInt8, decide (a ≤ b) = true → decide (b ≤ c) = true → decide (a ≤ c) = true := fun a b c h1 h2 => by simp only [decide_eq_true_eq] at *; exact List.le_trans h1 h2
  have to : ∀ a b : List UInt8, (decide (a ≤ b) || decide (b ≤ a)) = true := fun a b => by simp only [Bool.or_eq_true, decide_eq_true_eq]; exact List.le_total a b
  refine List.Perm.eq_of_pairwise (le := fun a b => decide (a ≤ b) = true) (fun a b _ _ h1 h2 => ?_) (List.pairwise_mergeSort tr to rawL) srt_sorted ((List.mergeSort_perm rawL _).trans (List.isPerm_iff.1 srt_perm))
  simp only [decide_eq_true_eq] at h1 h2
  exact List.le_antisymm h1 h2
theorem strs_raw : strs nmAll = rawL.map encStr := by
  unfold strs rawL
  rw [List.map_map]
  rfl
theorem strs_srt : strs srtB = srtL.map encStr := by
  unfold strs srtB
  rw [List.map_map]
  rfl
theorem raw_len : rawL.length = nmAll.length := by unfold rawL; rw [List.length_map]
theorem nmAll_len : nmAll.length = 54 := by decide +kernel

theorem sortNames (W : World) (base : Nat) (v : Value) (h : OwnsS W base v nmAll) : Calls Try.prog 127 #[v] W fun e w' => e = .returned (.tuple #[]) ∧ OwnsS w' base v srtB ∧ W.grownBy w' v.ownBlock := by
  unfold OwnsS at h
  rw [strs_raw, ← raw_len] at h
  rcases h.2 with ⟨rfl, hn⟩ | ⟨g, cap, cur, rfl, hbase, hb, h1, h2, h3, h4⟩
  · have := nmAll_len
    have := raw_len
    omega
  · have hc := Try.slices_Sort_string g 0 cap rawL W (holds_of_block hb (by simpa using h4)) (Array.getElem?_eq_some_iff.1 hb).1 (by rw [raw_len, nmAll_len]; decide)
    refine hc.mono ?_
    rintro e w' ⟨rfl, n, os, rfl⟩
    rw [raw_sorted]
    have hl : srtL.length = rawL.length := by rw [raw_len, nmAll_len]; rfl
    refine ⟨rfl, ?_, grownBy_sorted _⟩
    have ho := ownsRow_sorted (n := n) (os := os) hl hbase hb h1 h2 h3
    unfold OwnsS
    rw [strs_srt, show srtB.length = rawL.length by rw [← hl]; unfold srtB; rw [List.length_map]]
    exact ho
theorem implCloneNames (w : World) : Calls Try.prog 59 #[] w fun e w' => ∃ v, e = .returned v ∧ OwnsS w' w.heap.size v srtB ∧ Below w.heap.size w w' := implCloneNames_any srtB sortNames w
end Go.Proofs.Ytdgpjpcdifpllaa

/- CN43:
  CloneNames of the model: the plain names; insertion of names into a sorted list. -/
namespace Go.Proofs.Ytdgpjpcdifpllaa
open Go.RowKit
set_option linter.unusedVariables false
set_option linter.unusedSimpArgs false

/-- The plain names. -/
def plL : List (List UInt8) := [[66, 70], [68], [68, 49], [68, 50], [69], [69, 48], [69, 49], [69, 50], [73], [73, 48], [73, 49], [73, 50], [76], [76, 48], [76, 49], [76, 50], [76, 51], [77], [77, 48], [77, 49], [77, 50], [78], [78, 50], [82, 48], [82, 49], [82, 50], [83, 48], [83, 48, 48], [83, 48, 49], [83, 48, 50], [83, 49], [83, 49, 48], [83, 49, 49], [83, 49, 50], [86], [86, 48], [86, 49], [86, 50]]
def bB (l : List UInt8) : ByteArray := ⟨l.toArray⟩
def plB : List ByteArray := plL.map bB
theorem plB_len : plB.length = 38 := rfl
/-- The place of a name among the first k: behind the last one that is not greater. -/
def posN (o : List (List UInt8)) (s : List UInt8) : Nat → Nat
  | 0 => 0
  | k + 1 => if s < o[k]?.getD [] then posN o s k else k + 1
theorem posN_le (o : List (List UInt8)) (s : List UInt8) : ∀ k, posN o s k ≤ k
  | 0 => Nat.le_refl _
  | k + 1 => by
    unfold posN
    split
    · exact Nat.le_succ_of_le (posN_le o s k)
    · exact Nat.le_refl _
def insC (o : List (List UInt8)) (s : List UInt8) : List (List UInt8) := o.take (posN o s o.length) ++ s :: o.drop (posN o s o.length)
theorem insC_len (o : List (List UInt8)) (s : List UInt8) : (insC o s).length = o.length + 1 := by
  have := posN_le o s o.length
  unfold insC
  simp
  omega
/-- A plain name's own names. -/
def partsOfN (p : List UInt8) : List (List UInt8) := if p[0]?.getD 0 = 83 then [p, p ++ [94, 50], p ++ [94, 51]] else [p]
def insAll (o : List (List UInt8)) (l : List (List UInt8)) : List (List UInt8) := l.foldl insC o
theorem insAll_snoc (o l : List (List UInt8)) (s : List UInt8) : insAll o (l ++ [s]) = insC (insAll o l) s := by simp [insAll]
theorem insAll_len (o : List (List UInt8)) : ∀ l : List (List UInt8), (insAll o l).length = o.length + l.length := by
  intro l
  induction l generalizing o with
  | nil => rfl
  | cons s l ih => rw [insAll, List.foldl_cons, ← insAll, ih, insC_len]; simp; omega
def outN (k : Nat) : List (List UInt8) := (plL.take k).foldl (fun o p => insAll o (partsOfN p)) []
theorem outN_succ {k : Nat} (h : k < 38) : outN (k + 1) = insAll (outN k) (partsOfN (plL[k]?.getD [])) := by
  unfold outN
  rw [List.take_succ_eq_append_getElem (show k < plL.length from h), List.foldl_append, List.getElem?_eq_getElem (show k < plL.length from h)]
  rfl
set_option maxRecDepth 100000 in
theorem outN_len : ∀ k, k ≤ 38 → (outN k).length ≤ 54 := by decide +kernel

set_option maxRecDepth 100000 in
set_option maxHeartbeats 8000000 in
theorem l08Plain_any (w : World) : Calls Try.prog 171 #[] w fun e w' => e = .returned (.slice (some ⟨w.heap.size, 0, none⟩) 38 38) ∧ OwnsS w' w.heap.size (.slice (some ⟨w.heap.size, 0, none⟩) 38 38) plB ∧ Below w.heap.size w w' := by
  go_enter Try.func171, Try.ntmps171
  go_wp2
  go_ret
  refine ⟨rfl, ?_, bnew _ _⟩
  exact World.ownsRow_lit w (strs plB).toArray 38 (Nat.le_refl _) (by decide) rfl
end Go.Proofs.Ytdgpjpcdifpllaa
