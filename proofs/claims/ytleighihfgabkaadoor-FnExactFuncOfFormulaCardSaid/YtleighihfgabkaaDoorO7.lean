/-
  Formulas in the model: dual formulas.
-/
import Derived.Test.YtleighihfgabkaaDoorO6
import Derived.Deep.AppendLies
namespace Go.Proofs.YtleighihfgabkaaDoor
open Go.RowKit
set_option linter.unusedVariables false
set_option linter.unusedSimpArgs false

/-- The dual formula. -/
def Fm.dual : Fm → Fm
  | .leaf c => if c = 48 then .leaf 49 else if c = 49 then .leaf 48 else .leaf c
  | .one c a => .one c a.dual
  | .two c a b => if c = 38 then .two 124 a.dual b.dual else if c = 124 then .two 38 a.dual b.dual else .one 33 (.two c a.dual b.dual)
  | .three c a b d => if c = 63 then .three c a.dual d.dual b.dual else .three c a.dual b.dual d.dual
theorem Fm.dual_len (f : Fm) : f.dual.txt.length ≤ 2 * f.txt.length := by
  induction f with
  | leaf c => simp only [Fm.dual]; split <;> (try split) <;> simp [Fm.txt]
  | one c a ih => simp only [Fm.dual, Fm.txt, List.length_cons]; omega
  | two c a b h1 h2 => simp only [Fm.dual]; split <;> (try split) <;> simp only [Fm.txt, List.length_cons, List.length_append] <;> omega
  | three c a b d h1 h2 h3 => simp only [Fm.dual]; split <;> simp only [Fm.txt, List.length_cons, List.length_append] <;> omega
/-- The list of parts while the first j of them are dual. -/
def Fm.dl (f : Fm) (j : Nat) : List ByteArray := ((f.kids.take j).map fun g => g.dual.bytes) ++ (f.kids.drop j).map Fm.bytes
theorem Fm.dl_len (f : Fm) (j : Nat) : (f.dl j).length = f.kids.length := by
  simp only [Fm.dl, List.length_append, List.length_map, List.length_take, List.length_drop]
  omega
theorem Fm.dl_zero (f : Fm) : f.dl 0 = f.kids.map Fm.bytes := by simp [Fm.dl]
theorem Fm.dl_all (f : Fm) : f.dl f.kids.length = f.kids.map fun g => g.dual.bytes := by simp [Fm.dl]
theorem Fm.dl_get (f : Fm) (j : Nat) (h : j < f.kids.length) : (f.dl j)[j]? = some (f.kids[j]).bytes := by
  unfold Fm.dl
  rw [List.getElem?_append_right (by simp; omega), List.length_map, List.length_take, Nat.min_eq_left (Nat.le_of_lt h), Nat.sub_self, List.drop_eq_getElem_cons h]
  rfl
theorem Fm.dl_set (f : Fm) (j : Nat) (h : j < f.kids.length) : (f.dl j).set j (f.kids[j]).dual.bytes = f.dl (j + 1) := by
  unfold Fm.dl
  rw [List.set_append_right _ _ (by simp; omega), List.length_map, List.length_take, Nat.min_eq_left (Nat.le_of_lt h), Nat.sub_self, List.drop_eq_getElem_cons h, List.map_cons, List.set_cons_zero, List.take_succ_eq_append_getElem h, List.map_append, List.append_assoc]
  rfl
theorem strs_set (xs : List ByteArray) (j : Nat) (x : ByteArray) : strs (xs.set j x) = (strs xs).set j (.string x) := by simp [strs, List.map_set]
theorem strs_get (xs : List ByteArray) (j : Nat) : (strs xs)[j]? = (xs[j]?).map Value.string := by simp [strs]
theorem cat1 (c : UInt8) (a : Fm) : ((⟨#[c]⟩ : ByteArray) ++ a.bytes) = ⟨(c :: a.txt).toArray⟩ := by
  apply ByteArray.ext
  simp [Fm.bytes, ByteArray.data_append]
theorem catL (l : List UInt8) (b : Fm) : ((⟨l.toArray⟩ : ByteArray) ++ b.bytes) = ⟨(l ++ b.txt).toArray⟩ := by
  apply ByteArray.ext
  simp [Fm.bytes, ByteArray.data_append]
theorem cat2 (c : UInt8) (a b : Fm) : ((⟨#[c]⟩ : ByteArray) ++ a.bytes) ++ b.bytes = (Fm.two c a b).bytes := by
  rw [cat1, catL]
  rfl
theorem cat2x (a b : Fm) : ((⟨#[33, 94]⟩ : ByteArray) ++ a.bytes) ++ b.bytes = (Fm.one 33 (.two 94 a b)).bytes := by
  rw [show (⟨#[33, 94]⟩ : ByteArray) = ⟨[33, 94].toArray⟩ from rfl, catL, catL]
  simp [Fm.bytes, Fm.txt]
theorem cat3 (c : UInt8) (a b d : Fm) : (((⟨#[c]⟩ : ByteArray) ++ a.bytes) ++ b.bytes) ++ d.bytes = (Fm.three c a b d).bytes := by
  rw [cat1, catL, catL]
  simp [Fm.bytes, Fm.txt]
/-- The dual formula while its first j parts are put behind the head. -/
def Fm.ot (f : Fm) (j : Nat) : ByteArray := ⟨(f.head :: ((f.kids.take j).map fun g => g.dual.txt).flatten).toArray⟩
theorem Fm.ot_zero (f : Fm) : f.bytes.extract 0 1 = f.ot 0 := by
  apply ByteArray.ext
  rw [ByteArray.data_extract]
  unfold Fm.ot Fm.bytes
  rw [f.txt_kids]
  simp
theorem Fm.ot_succ (f : Fm) (j : Nat) (h : j < f.kids.length) : f.ot j ++ (f.kids[j]).dual.bytes = f.ot (j + 1) := by
  unfold Fm.ot
  have e : f.kids.take (j + 1) = f.kids.take j ++ [f.kids[j]] := List.take_succ_eq_append_getElem h
  rw [catL, e, List.map_append, List.flatten_append]
  simp only [List.map_cons, List.map_nil, List.flatten_cons, List.flatten_nil, List.append_nil, List.cons_append]
theorem Fm.ot_size (f : Fm) (j : Nat) (h : j ≤ f.kids.length) : (f.ot j).size ≤ 2 * f.txt.length := by
  have key : ∀ l : List Fm, ((l.map fun g => g.dual.txt).flatten).length ≤ 2 * ((l.map Fm.txt).flatten).length := by
    intro l
    induction l with
    | nil => simp
    | cons g l ih =>
      have := g.dual_len
      simp only [List.map_cons, List.flatten_cons, List.length_append]
      omega
  have h1 := key (f.kids.take j)
  have h2 : (f.ot j).size = (f.head :: ((f.kids.take j).map fun g => g.dual.txt).flatten).length := by
    show (f.head :: ((f.kids.take j).map fun g => g.dual.txt).flatten).toArray.size = _
    simp
  have h3 : ((f.kids.take j).map Fm.txt).flatten.length ≤ (f.kids.map Fm.txt).flatten.length := by
    conv => rhs; rw [← List.take_append_drop j f.kids, List.map_append, List.flatten_append, List.length_append]
    omega
  rw [h2, List.length_cons, f.txt_kids, List.length_cons]
  omega
theorem Fm.head_at (f : Fm) (h : 0 < f.bytes.size) : f.bytes[0] = f.head := by
  have e : f.bytes.data.toList = f.head :: (f.kids.map Fm.txt).flatten := by rw [f.bytes_list, f.txt_kids]
  show f.bytes.data[0] = _
  rw [← Array.getElem_toList]
  simp [e]
theorem plc_cases {c : UInt8} {k : Nat} (h : plc c = some k) : (k = 0 ∧ (c = 97 ∨ c = 98 ∨ c = 99 ∨ c = 100 ∨ c = 48 ∨ c = 49)) ∨ (k = 1 ∧ c = 33) ∨ (k = 2 ∧ (c = 38 ∨ c = 124 ∨ c = 94)) ∨ (k = 3 ∧ (c = 63 ∨ c = 77)) := by
  unfold plc at h
  split at h
  · cases h; exact .inl ⟨rfl, by assumption⟩
  · split at h
    · cases h; exact .inr (.inl ⟨rfl, by assumption⟩)
    · split at h
      · cases h; exact .inr (.inr (.inl ⟨rfl, by assumption⟩))
      · split at h
        · cases h; exact .inr (.inr (.inr ⟨rfl, by assumption⟩))
        · cases h
/-- A formula whose dual keeps its head. -/
def Fm.keeps (f : Fm) : Prop := (f.head.toNat ≠ 48 ∧ f.head.toNat ≠ 49 ∧ f.head.toNat ≠ 38 ∧ f.head.toNat ≠ 124 ∧ f.head.toNat ≠ 94 ∧ f.head.toNat ≠ 63) ∧ f.ot f.kids.length = f.dual.bytes
theorem Fm.shape {f : Fm} (w : f.wf) : f = .leaf 48 ∨ f = .leaf 49 ∨ (∃ a b, f = .two 38 a b) ∨ (∃ a b, f = .two 124 a b) ∨ (∃ a b, f = .two 94 a b) ∨ (∃ a b d, f = .three 63 a b d) ∨ f.keeps := by
  cases f with
  | leaf c =>
    rcases plc_cases (show plc c = some 0 from w) with ⟨_, h⟩ | ⟨h, _⟩ | ⟨h, _⟩ | ⟨h, _⟩
    · rcases h with rfl | rfl | rfl | rfl | rfl | rfl
      · exact .inr (.inr (.inr (.inr (.inr (.inr ⟨by decide, rfl⟩)))))
      · exact .inr (.inr (.inr (.inr (.inr (.inr ⟨by decide, rfl⟩)))))
      · exact .inr (.inr (.inr (.inr (.inr (.inr ⟨by decide, rfl⟩)))))
      · exact .inr (.inr (.inr (.inr (.inr (.inr ⟨by decide, rfl⟩)))))
      · exact .inl rfl
      · exact .inr (.inl rfl)
    all_goals omega
  | one c a =>
    rcases plc_cases w.1 with ⟨h, _⟩ | ⟨_, rfl⟩ | ⟨h, _⟩ | ⟨h, _⟩
    · omega
    · exact .inr (.inr (.inr (.inr (.inr (.inr ⟨by simp [Fm.head], by simp [Fm.ot, Fm.kids, Fm.head, Fm.dual, Fm.bytes, Fm.txt]⟩)))))
    all_goals omega
  | two c a b =>
    rcases plc_cases w.1 with ⟨h, _⟩ | ⟨h, _⟩ | ⟨_, h⟩ | ⟨h, _⟩
    · omega
    · omega
    · rcases h with rfl | rfl | rfl
      · exact .inr (.inr (.inl ⟨a, b, rfl⟩))
      · exact .inr (.inr (.inr (.inl ⟨a, b, rfl⟩)))
      · exact .inr (.inr (.inr (.inr (.inl ⟨a, b, rfl⟩))))
    · omega
  | three c a b d =>
    rcases plc_cases w.1 with ⟨h, _⟩ | ⟨h, _⟩ | ⟨h, _⟩ | ⟨_, h⟩
    · omega
    · omega
    · omega
    · rcases h with rfl | rfl
      · exact .inr (.inr (.inr (.inr (.inr (.inl ⟨a, b, d, rfl⟩)))))
      · exact .inr (.inr (.inr (.inr (.inr (.inr ⟨by simp [Fm.head], by simp [Fm.ot, Fm.kids, Fm.head, Fm.dual, Fm.bytes, Fm.txt]⟩)))))
theorem gOf0 {W W' : World} (hb : Below W.heap.size W W') : W.grownBy W' none := ⟨hb.os, hb.tape, hb.output, hb.size, fun k hk _ => hb.block k hk⟩
def DualPost (f : Fm) (w : World) (e : Ending) (w' : World) : Prop := e = .returned (.string f.dual.bytes) ∧ Below w.heap.size w w'
set_option maxRecDepth 100000 in
set_option maxHeartbeats 16000000 in
theorem l05Dual_any : ∀ (n : Nat) (f : Fm), f.wf → f.txt.length ≤ n → n ≤ 1000 → ∀ w, Calls Tryd.prog 58 #[.string f.bytes] w (DualPost f w) := by
  intro n
  induction n with
  | zero => intro f _ h; have := f.txt_pos; omega
  | succ n ih =>
    intro f wf hf hn w
    have PP := Lib.hid (l05Parts_any wf (by omega) w)
    have hpos := f.txt_pos
    have hz0 : 0 < f.bytes.size := by rw [f.bytes_size]; exact hpos
    have hhead := f.head_at hz0
    go_enter Tryd.func58, Tryd.ntmps58
    go_wp2_with fail
    refine PP.out.mono ?_
    rintro e w2 ⟨s, rfl, ho, hb⟩
    rw [← f.dl_zero] at ho
    have O2 := Lib.hid ho
    obtain ⟨a, cap, hs, _⟩ := ho.form
    rw [f.dl_len] at hs
    subst hs
    have HB := Lib.hid hb
    have hk3 := f.kids_le
    have HH := Lib.hid hhead
    clear PP ho hb hhead
    go_wp2_with fail
    go_loopw [4] (fun i wr => ∃ j : Nat, j ≤ f.kids.length ∧ i = .int .i64 j ∧ Hid (OwnsS wr w.heap.size (.slice a f.kids.length cap) (f.dl j)) ∧ Hid (Below w.heap.size w wr)) (fun i _ => f.kids.length - (intOf i).toNat)
    case atStart => exact ⟨0, Nat.zero_le _, rfl, O2, HB⟩
    case round =>
      clear O2 HB
      obtain ⟨j, hj, rfl, O, HB⟩ := hrel
      have hown := O.out
      unfold OwnsS at hown
      rw [f.dl_len] at hown
      have HO := Lib.hid hown
      by_cases hlt : j < f.kids.length
      · obtain ⟨g, cap', e5, hgB, hgw⟩ := World.ownsRow.form HO.out (by omega)
        cases e5
        have d1 := World.ownsRow.cellAt hown j (by omega)
        rw [strs_get, f.dl_get j hlt, Option.map_some] at d1
        have hm := List.getElem_mem hlt
        have I := Lib.hid (ih (f.kids[j]) (Fm.kids_wf wf _ hm) (by have := Fm.kids_lt (f := f) _ hm; omega) (by omega))
        have ES := Lib.hid (f.dl_set j hlt)
        have hszr : w.heap.size ≤ wr.heap.size := HB.out.size
        clear hown hm O
        go_wp2_with fail
        refine (I.out _).mono ?_
        rintro e w5 ⟨rfl, hb5⟩
        have hown5 : w5.ownsRow w.heap.size 9 1 (.slice (some ⟨g, 0, none⟩) f.kids.length cap) f.kids.length (strs (f.dl j)) := World.ownsRow.kept HO.out (gOf0 hb5) (.inr (by intro e; cases e))
        have d2 := kc hb5 d1
        have y2 := World.ownsRow.frozenAt hown5 j
        have ST := World.ownsRow.stored hown5 j (.string (f.kids[j]).dual.bytes)
        have O6 := Lib.hid (show OwnsS (w5.setCell ⟨g, j, none⟩ (.string (f.kids[j]).dual.bytes)) w.heap.size (.slice (some ⟨g, 0, none⟩) f.kids.length cap) (f.dl (j + 1)) by
          unfold OwnsS
          rw [f.dl_len, ← ES.out, strs_set]
          exact ST.1)
        have HB6 := Lib.hid ((bthen HB.out hb5).setCell (p := ⟨g, j, none⟩) hgB (.string (f.kids[j]).dual.bytes))
        clear hown5 ST hb5 d1 HO HB ES I
        generalize (f.kids[j]).dual.bytes = X at *
        go_wp2_with fail
        go_roundw
        case rel => exact ⟨j + 1, by omega, by go_num, O6, HB6⟩
        case measure => simp [intOf]; omega
      · obtain rfl : j = f.kids.length := by omega
        have O' := hown
        rw [f.dl_all] at O'
        have HF := Lib.hid HB.out
        have DD := Lib.hid O'
        clear hown O O' HB HO
        have HK := Lib.hid (show f.bytes.size = f.txt.length from f.bytes_size)
        have hl := hf
        rcases Fm.shape wf with rfl | rfl | ⟨a, b, rfl⟩ | ⟨a, b, rfl⟩ | ⟨a, b, rfl⟩ | ⟨a, b, d, rfl⟩ | hkp
        · have hb : (Fm.leaf 48).bytes[0]'hz0 = 48 := HH.out
          clear HH DD
          generalize (Fm.leaf 48).bytes = T at *
          have hb1 : T[0].toNat = 48 := by rw [hb]; rfl
          clear hb
          go_wp2_with fail
          go_ret
          exact ⟨rfl, HF.out⟩
        · have hb : (Fm.leaf 49).bytes[0]'hz0 = 49 := HH.out
          clear HH DD
          generalize (Fm.leaf 49).bytes = T at *
          have hb1 : T[0].toNat = 49 := by rw [hb]; rfl
          clear hb
          go_wp2_with fail
          go_ret
          exact ⟨rfl, HF.out⟩
        · have hb : (Fm.two 38 a b).bytes[0]'hz0 = 38 := HH.out
          obtain ⟨g, cap', e5, hgB, hgw⟩ := World.ownsRow.form DD.out (by show 0 < 2; decide)
          cases e5
          have d0 : wr.cell? ⟨g, 0, none⟩ = some (.string a.dual.bytes) := (World.ownsRow.cellAt DD.out 0 (by show 0 < 2 * 1; decide)).trans rfl
          have d1 : wr.cell? ⟨g, 1, none⟩ = some (.string b.dual.bytes) := (World.ownsRow.cellAt DD.out 1 (by show 1 < 2 * 1; decide)).trans rfl
          have sa : a.dual.bytes.size ≤ 2002 := by rw [Fm.bytes_size]; have h1 := a.dual_len; have h2 := Fm.kids_lt (f := Fm.two 38 a b) a (by simp [Fm.kids]); omega
          have sb : b.dual.bytes.size ≤ 2002 := by rw [Fm.bytes_size]; have h1 := b.dual_len; have h2 := Fm.kids_lt (f := Fm.two 38 a b) b (by simp [Fm.kids]); omega
          have EQ := Lib.hid (show (((⟨#[124]⟩ : ByteArray) ++ a.dual.bytes) ++ b.dual.bytes) = (Fm.two 38 a b).dual.bytes from cat2 124 a.dual b.dual)
          have SZ := Lib.hid (show True from trivial)
          clear DD HH
          obtain ⟨R, hR⟩ : ∃ R, (Fm.two 38 a b).dual.bytes = R := ⟨_, rfl⟩
          rw [hR] at EQ
          have HR := Lib.hid hR
          clear hR
          generalize a.dual.bytes = A at *
          generalize b.dual.bytes = B at *
          generalize (Fm.two 38 a b).bytes = T at *
          have hb1 : T[0].toNat = 38 := by rw [hb]; rfl
          clear hb
          have n0 : ¬ (9223372036854775807 < (⟨#[124]⟩ : ByteArray).size + A.size) := by simp only [ByteArray.size_append, ByteArray.size_mk']; simp; omega
          have m0 : ¬ (9223372036854775807 < 1 + A.size) := by omega
          have n1 : ¬ (9223372036854775807 < ((⟨#[124]⟩ : ByteArray) ++ A).size + B.size) := by simp only [ByteArray.size_append, ByteArray.size_mk']; simp; omega
          have m1 : ¬ (9223372036854775807 < 1 + A.size + B.size) := by omega
          have hkl : (Fm.two 38 a b).kids.length = 2 := rfl
          rw [hkl]
          clear hkl
          go_wp2_with fail
          go_region
          go_wp2
          go_ret
          exact ⟨by rw [HR.out, ← EQ.out]; rfl, HF.out.drew⟩
        · have hb : (Fm.two 124 a b).bytes[0]'hz0 = 124 := HH.out
          obtain ⟨g, cap', e5, hgB, hgw⟩ := World.ownsRow.form DD.out (by show 0 < 2; decide)
          cases e5
          have d0 : wr.cell? ⟨g, 0, none⟩ = some (.string a.dual.bytes) := (World.ownsRow.cellAt DD.out 0 (by show 0 < 2 * 1; decide)).trans rfl
          have d1 : wr.cell? ⟨g, 1, none⟩ = some (.string b.dual.bytes) := (World.ownsRow.cellAt DD.out 1 (by show 1 < 2 * 1; decide)).trans rfl
          have sa : a.dual.bytes.size ≤ 2002 := by rw [Fm.bytes_size]; have h1 := a.dual_len; have h2 := Fm.kids_lt (f := Fm.two 124 a b) a (by simp [Fm.kids]); omega
          have sb : b.dual.bytes.size ≤ 2002 := by rw [Fm.bytes_size]; have h1 := b.dual_len; have h2 := Fm.kids_lt (f := Fm.two 124 a b) b (by simp [Fm.kids]); omega
          have EQ := Lib.hid (show (((⟨#[38]⟩ : ByteArray) ++ a.dual.bytes) ++ b.dual.bytes) = (Fm.two 124 a b).dual.bytes from cat2 38 a.dual b.dual)
          have SZ := Lib.hid (show True from trivial)
          clear DD HH
          obtain ⟨R, hR⟩ : ∃ R, (Fm.two 124 a b).dual.bytes = R := ⟨_, rfl⟩
          rw [hR] at EQ
          have HR := Lib.hid hR
          clear hR
          generalize a.dual.bytes = A at *
          generalize b.dual.bytes = B at *
          generalize (Fm.two 124 a b).bytes = T at *
          have hb1 : T[0].toNat = 124 := by rw [hb]; rfl
          clear hb
          have n0 : ¬ (9223372036854775807 < (⟨#[38]⟩ : ByteArray).size + A.size) := by simp only [ByteArray.size_append, ByteArray.size_mk']; simp; omega
          have m0 : ¬ (9223372036854775807 < 1 + A.size) := by omega
          have n1 : ¬ (9223372036854775807 < ((⟨#[38]⟩ : ByteArray) ++ A).size + B.size) := by simp only [ByteArray.size_append, ByteArray.size_mk']; simp; omega
          have m1 : ¬ (9223372036854775807 < 1 + A.size + B.size) := by omega
          have hkl : (Fm.two 124 a b).kids.length = 2 := rfl
          rw [hkl]
          clear hkl
          go_wp2_with fail
          go_region
          go_wp2
          go_ret
          exact ⟨by rw [HR.out, ← EQ.out]; rfl, HF.out.drew⟩
        · have hb : (Fm.two 94 a b).bytes[0]'hz0 = 94 := HH.out
          obtain ⟨g, cap', e5, hgB, hgw⟩ := World.ownsRow.form DD.out (by show 0 < 2; decide)
          cases e5
          have d0 : wr.cell? ⟨g, 0, none⟩ = some (.string a.dual.bytes) := (World.ownsRow.cellAt DD.out 0 (by show 0 < 2 * 1; decide)).trans rfl
          have d1 : wr.cell? ⟨g, 1, none⟩ = some (.string b.dual.bytes) := (World.ownsRow.cellAt DD.out 1 (by show 1 < 2 * 1; decide)).trans rfl
          have sa : a.dual.bytes.size ≤ 2002 := by rw [Fm.bytes_size]; have h1 := a.dual_len; have h2 := Fm.kids_lt (f := Fm.two 94 a b) a (by simp [Fm.kids]); omega
          have sb : b.dual.bytes.size ≤ 2002 := by rw [Fm.bytes_size]; have h1 := b.dual_len; have h2 := Fm.kids_lt (f := Fm.two 94 a b) b (by simp [Fm.kids]); omega
          have EQ := Lib.hid (show (((⟨#[33, 94]⟩ : ByteArray) ++ a.dual.bytes) ++ b.dual.bytes) = (Fm.two 94 a b).dual.bytes from cat2x a.dual b.dual)
          have SZ := Lib.hid (show True from trivial)
          clear DD HH
          obtain ⟨R, hR⟩ : ∃ R, (Fm.two 94 a b).dual.bytes = R := ⟨_, rfl⟩
          rw [hR] at EQ
          have HR := Lib.hid hR
          clear hR
          generalize a.dual.bytes = A at *
          generalize b.dual.bytes = B at *
          generalize (Fm.two 94 a b).bytes = T at *
          have hb1 : T[0].toNat = 94 := by rw [hb]; rfl
          clear hb
          have n0 : ¬ (9223372036854775807 < (⟨#[33, 94]⟩ : ByteArray).size + A.size) := by simp only [ByteArray.size_append, ByteArray.size_mk']; simp; omega
          have m0 : ¬ (9223372036854775807 < 2 + A.size) := by omega
          have n1 : ¬ (9223372036854775807 < ((⟨#[33, 94]⟩ : ByteArray) ++ A).size + B.size) := by simp only [ByteArray.size_append, ByteArray.size_mk']; simp; omega
          have m1 : ¬ (9223372036854775807 < 2 + A.size + B.size) := by omega
          have hkl : (Fm.two 94 a b).kids.length = 2 := rfl
          rw [hkl]
          clear hkl
          go_wp2_with fail
          go_region
          go_wp2
          go_ret
          exact ⟨by rw [HR.out, ← EQ.out]; rfl, HF.out.drew⟩
        · have hb : (Fm.three 63 a b d).bytes[0]'hz0 = 63 := HH.out
          obtain ⟨g, cap', e5, hgB, hgw⟩ := World.ownsRow.form DD.out (by show 0 < 3; decide)
          cases e5
          have d0 : wr.cell? ⟨g, 0, none⟩ = some (.string a.dual.bytes) := (World.ownsRow.cellAt DD.out 0 (by show 0 < 3 * 1; decide)).trans rfl
          have d1 : wr.cell? ⟨g, 1, none⟩ = some (.string b.dual.bytes) := (World.ownsRow.cellAt DD.out 1 (by show 1 < 3 * 1; decide)).trans rfl
          have d2 : wr.cell? ⟨g, 2, none⟩ = some (.string d.dual.bytes) := (World.ownsRow.cellAt DD.out 2 (by show 2 < 3 * 1; decide)).trans rfl
          have sa : a.dual.bytes.size ≤ 2002 := by rw [Fm.bytes_size]; have h1 := a.dual_len; have h2 := Fm.kids_lt (f := Fm.three 63 a b d) a (by simp [Fm.kids]); omega
          have sb : b.dual.bytes.size ≤ 2002 := by rw [Fm.bytes_size]; have h1 := b.dual_len; have h2 := Fm.kids_lt (f := Fm.three 63 a b d) b (by simp [Fm.kids]); omega
          have sd : d.dual.bytes.size ≤ 2002 := by rw [Fm.bytes_size]; have h1 := d.dual_len; have h2 := Fm.kids_lt (f := Fm.three 63 a b d) d (by simp [Fm.kids]); omega
          have EQ := Lib.hid (show ((((⟨#[63]⟩ : ByteArray) ++ a.dual.bytes) ++ d.dual.bytes) ++ b.dual.bytes) = (Fm.three 63 a b d).dual.bytes from cat3 63 a.dual d.dual b.dual)
          have SZ := Lib.hid (show True from trivial)
          clear DD HH
          obtain ⟨R, hR⟩ : ∃ R, (Fm.three 63 a b d).dual.bytes = R := ⟨_, rfl⟩
          rw [hR] at EQ
          have HR := Lib.hid hR
          clear hR
          generalize a.dual.bytes = A at *
          generalize b.dual.bytes = B at *
          generalize d.dual.bytes = D at *
          generalize (Fm.three 63 a b d).bytes = T at *
          have hb1 : T[0].toNat = 63 := by rw [hb]; rfl
          clear hb
          have n0 : ¬ (9223372036854775807 < (⟨#[63]⟩ : ByteArray).size + A.size) := by simp only [ByteArray.size_append, ByteArray.size_mk']; simp; omega
          have m0 : ¬ (9223372036854775807 < 1 + A.size) := by omega
          have n1 : ¬ (9223372036854775807 < ((⟨#[63]⟩ : ByteArray) ++ A).size + D.size) := by simp only [ByteArray.size_append, ByteArray.size_mk']; simp; omega
          have m1 : ¬ (9223372036854775807 < 1 + A.size + D.size) := by omega
          have n2 : ¬ (9223372036854775807 < (((⟨#[63]⟩ : ByteArray) ++ A) ++ D).size + B.size) := by simp only [ByteArray.size_append, ByteArray.size_mk']; simp; omega
          have m2 : ¬ (9223372036854775807 < 1 + A.size + D.size + B.size) := by omega
          have hkl : (Fm.three 63 a b d).kids.length = 3 := rfl
          rw [hkl]
          clear hkl
          go_wp2_with fail
          go_region
          go_wp2
          go_ret
          exact ⟨by rw [HR.out, ← EQ.out]; rfl, HF.out.drew⟩
        · obtain ⟨⟨k1, k2, k3, k4, k5, k6⟩, hot⟩ := hkp
          have hb : f.bytes[0] = f.head := HH.out
          rw [← hb] at k1 k2 k3 k4 k5 k6
          have EX := Lib.hid f.ot_zero
          have HOT := Lib.hid hot
          have h1z : 1 ≤ f.bytes.size := hz0
          have t1 : ((f.bytes[0].toNat : Int) == 48) = false := by simp; omega
          have t2 : ((f.bytes[0].toNat : Int) == 49) = false := by simp; omega
          have t3 : ((f.bytes[0].toNat : Int) == 38) = false := by simp; omega
          have t4 : ((f.bytes[0].toNat : Int) == 124) = false := by simp; omega
          have t5 : ((f.bytes[0].toNat : Int) == 94) = false := by simp; omega
          have t6 : ((f.bytes[0].toNat : Int) == 63) = false := by simp; omega
          have hol := Lib.hid (fun j hj => f.ot_size j hj)
          have hol2 : 2 * f.txt.length ≤ 2002 := by omega
          clear hb HH hot k1 k2 k3 k4 k5 k6
          go_wp2_with fail
          rw [EX.out]
          go_loopw [5, 6] (fun o i wq => ∃ j : Nat, j ≤ f.kids.length ∧ i = .int .i64 j ∧ o = .string (f.ot j) ∧ Below wr.heap.size wr wq) (fun _ i _ => f.kids.length - (intOf i).toNat)
          case atStart => exact ⟨0, Nat.zero_le _, rfl, rfl, Below.refl _ _⟩
          case round =>
            obtain ⟨j, hj, rfl, rfl, hN⟩ := hrel
            by_cases hlt : j < f.kids.length
            · obtain ⟨g, cap', e5, hgB, hgw⟩ := World.ownsRow.form DD.out (by omega)
              cases e5
              have d1 := World.ownsRow.cellAt DD.out j (by omega)
              rw [strs_get, List.getElem?_map, List.getElem?_eq_getElem hlt, Option.map_some, Option.map_some] at d1
              have d2 := (hN.cell (p := ⟨g, j, none⟩) hgw).trans d1
              have ES := Lib.hid (f.ot_succ j hlt)
              have z1 := hol.out j hj
              have z2 : (f.kids[j]).dual.bytes.size ≤ 2002 := by
                rw [Fm.bytes_size]
                have h1 := (f.kids[j]).dual_len
                have h2 := Fm.kids_lt (f := f) _ (List.getElem_mem hlt)
                omega
              have HN := Lib.hid hN
              have SL := Lib.hid (hol.out (j + 1) (by omega))
              clear hN d1
              generalize (f.kids[j]).dual.bytes = X at *
              have n1 : ¬ (9223372036854775807 < (f.ot j).size + X.size) := by omega
              go_wp2_with fail
              go_roundw
              case rel => exact ⟨j + 1, by omega, by go_num, by rw [← ES.out], HN.out⟩
              case measure => simp [intOf]; omega
            · obtain rfl : j = f.kids.length := by omega
              have HG := Lib.hid (bthen HF.out hN)
              clear hN
              go_wp2_with fail
              go_ret
              exact ⟨by rw [HOT.out]; rfl, HG.out⟩
end Go.Proofs.YtleighihfgabkaaDoor
