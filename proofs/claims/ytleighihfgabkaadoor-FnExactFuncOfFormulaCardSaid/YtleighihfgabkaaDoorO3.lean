/-
  Formulas in the model: what is a formula, sizes, parts; lists of texts of the call's own.
-/
import Derived.Test.YtleighihfgabkaaDoorO2
import Derived.Test.YtleighihfgabkaaDoorL1
import Derived.Laws.Concat
import Derived.Laws.IdiomStrings
namespace Go.Proofs.YtleighihfgabkaaDoor
open Go.RowKit
set_option linter.unusedVariables false
set_option linter.unusedSimpArgs false

/-- Is a text a formula? -/
def isFm (s : ByteArray) : Bool := decide (1 ≤ s.size) && (decide (s.size ≤ 60) && (endI s 0 == (s.size : Int)))
theorem isFm_iff {s : ByteArray} : isFm s = true ↔ s.size ≤ 60 ∧ ∃ f : Fm, f.wf ∧ s.data.toList = f.txt := by
  have hl : s.data.toList.length = s.size := Array.length_toList
  unfold isFm endI
  simp only [Bool.and_eq_true, decide_eq_true_eq, beq_iff_eq, List.drop_zero, Nat.zero_add]
  constructor
  · rintro ⟨h1, h2, h3⟩
    refine ⟨h2, ?_⟩
    cases e : rdF s.data.toList with
    | none =>
      rw [e] at h3
      have h5 : (-1 : Int) = (s.size : Int) := h3
      omega
    | some p =>
      rw [e] at h3
      obtain ⟨e1, w⟩ := rdF_some.1 (show rdF s.data.toList = some (p.1, p.2) from e)
      have h4 := congrArg List.length e1
      rw [List.length_append, hl] at h4
      have h5 : (p.1.txt.length : Int) = (s.size : Int) := h3
      have h6 : p.2 = [] := List.eq_nil_of_length_eq_zero (by omega)
      exact ⟨p.1, w, by rw [e1, h6, List.append_nil]⟩
  · rintro ⟨h2, f, w, e⟩
    have e1 : rdF s.data.toList = some (f, []) := rdF_some.2 ⟨by rw [e, List.append_nil], w⟩
    have hp := f.txt_pos
    have h4 := congrArg List.length e
    rw [hl] at h4
    rw [e1]
    exact ⟨by omega, h2, by show (f.txt.length : Int) = _; omega⟩
set_option maxRecDepth 100000 in
set_option maxHeartbeats 4000000 in
theorem l05Is_is {s : ByteArray} (hs : s.size ≤ 1048576) {b : Bool} (hb : isFm s = b) (w : World) :
    Calls Tryd.prog 43 #[.string s] w fun e w' => e = .returned (.bool b) ∧ w = w' := by
  unfold isFm at hb
  have HB := Lib.hid hb
  clear hb
  by_cases h1 : 1 ≤ s.size
  · by_cases h2 : s.size ≤ 60
    · have c1 : decide ((1 : Int) ≤ (s.size : Int)) = true := by simp; omega
      have c2 : decide ((s.size : Int) ≤ 60) = true := by simp; omega
      have E := Lib.hid (fun w => l05End_any s hs s.size 0 (by omega) (by omega) w)
      obtain ⟨x, hx⟩ : ∃ x, endI s 0 = x := ⟨_, rfl⟩
      rw [hx] at E
      have HX := Lib.hid hx
      clear hx
      go_enter Tryd.func43, Tryd.ntmps43
      go_wp2_with (go_at_call 73; refine (E.out _).mono ?_; rintro e w' ⟨rfl, rfl⟩)
      go_ret
      have h := HB.out
      rw [decide_eq_true h1, decide_eq_true h2, HX.out] at h
      exact ⟨by rw [← h]; rfl, rfl⟩
    · have c1 : decide ((1 : Int) ≤ (s.size : Int)) = true := by simp; omega
      have c2 : decide ((s.size : Int) ≤ 60) = false := by simp; omega
      go_enter Tryd.func43, Tryd.ntmps43
      go_wp2_with fail
      go_ret
      have h := HB.out
      rw [decide_eq_false h2] at h
      exact ⟨by rw [← h]; simp, rfl⟩
  · have c1 : decide ((1 : Int) ≤ (s.size : Int)) = false := by simp; omega
    go_enter Tryd.func43, Tryd.ntmps43
    go_wp2_with fail
    go_ret
    have h := HB.out
    rw [decide_eq_false h1] at h
    exact ⟨by rw [← h]; rfl, rfl⟩
/-- The gates among the first bytes. -/
def gts (l : List UInt8) : Nat := l.countP fun c => decide (0 < plI c)
theorem gts_take (s : ByteArray) (k : Nat) (h : k < s.size) : gts (s.data.toList.take (k + 1)) = gts (s.data.toList.take k) + if 0 < plI s[k] then 1 else 0 := by
  unfold gts
  rw [List.take_succ_eq_append_getElem (by rw [Array.length_toList]; exact h), List.countP_append]
  congr 1
  show List.countP _ [s[k]] = _
  by_cases hp : 0 < plI s[k]
  · simp [hp]
  · simp [hp]
theorem gts_le (l : List UInt8) : gts l ≤ l.length := List.countP_le_length
set_option maxRecDepth 100000 in
set_option maxHeartbeats 4000000 in
theorem l05Size_any (s : ByteArray) (hs : s.size ≤ 1048576) (w : World) :
    Calls Tryd.prog 52 #[.string s] w fun e w' => e = .returned (.int .i64 (gts s.data.toList : Int)) ∧ w = w' := by
  have hl : s.data.toList.length ≤ s.size := Nat.le_of_eq Array.length_toList
  go_enter Tryd.func52, Tryd.ntmps52
  go_wp2_with fail
  go_loop [3, 4] (fun c i => ∃ k : Nat, k ≤ s.size ∧ i = .int .i64 k ∧ c = .int .i64 (gts (s.data.toList.take k) : Int)) (fun _ i => s.size - (intOf i).toNat)
  case atStart => exact ⟨0, Nat.zero_le _, rfl, rfl⟩
  case round =>
    obtain ⟨k, hk, rfl, rfl⟩ := hrel
    by_cases hlt : k < s.size
    · have G := Lib.hid (gts_take s k hlt)
      have hg : gts (s.data.toList.take k) ≤ k := Nat.le_trans (gts_le _) (List.length_take_le _ _)
      by_cases hp : 0 < plI s[k]
      · have hd : decide (0 < plI s[k]) = true := by simpa using hp
        go_wp2_with (go_at_call 78; refine (l05Places_any _ _).mono ?_; rintro e w' ⟨rfl, rfl⟩)
        go_round
        case rel => exact ⟨k + 1, by omega, by go_num, by rw [G.out, if_pos hp]; go_num⟩
        case measure => simp [intOf]; omega
      · have hd : decide (0 < plI s[k]) = false := by simpa using hp
        go_wp2_with (go_at_call 78; refine (l05Places_any _ _).mono ?_; rintro e w' ⟨rfl, rfl⟩)
        go_round
        case rel => exact ⟨k + 1, by omega, by go_num, by rw [G.out, if_neg (by omega)]; rfl⟩
        case measure => simp [intOf]; omega
    · obtain rfl : k = s.size := by omega
      have e : s.data.toList.take s.size = s.data.toList := List.take_of_length_le hl
      rw [e]
      clear e
      go_wp2_with fail
      go_ret
      exact ⟨rfl, rfl⟩
/-- A list of texts of the call's own. -/
def strs (xs : List ByteArray) : List Value := xs.map Value.string
def OwnsS (W : World) (base : Nat) (s : Value) (xs : List ByteArray) : Prop := W.ownsRow base 9 1 s xs.length (strs xs)
theorem OwnsS.below {W W' : World} {base : Nat} {s : Value} {xs : List ByteArray} (h : OwnsS W base s xs) (hb : Below W.heap.size W W') : OwnsS W' base s xs := by
  obtain ⟨h1, h2 | ⟨g, cap, cur, e1, e2, e3, r⟩⟩ := h
  · exact ⟨h1, .inl h2⟩
  · exact ⟨h1, .inr ⟨g, cap, cur, e1, e2, (hb.block g (Array.getElem?_eq_some_iff.1 e3).1).trans e3, r⟩⟩
theorem OwnsS.mono {W : World} {b1 b2 : Nat} {s : Value} {xs : List ByteArray} (h : OwnsS W b1 s xs) (hb : b2 ≤ b1) : OwnsS W b2 s xs := by
  obtain ⟨h1, h2 | ⟨g, cap, cur, e1, e2, e3, r⟩⟩ := h
  · exact ⟨h1, .inl h2⟩
  · exact ⟨h1, .inr ⟨g, cap, cur, e1, Nat.le_trans hb e2, e3, r⟩⟩
theorem OwnsS.form {W : World} {base : Nat} {s : Value} {xs : List ByteArray} (h : OwnsS W base s xs) : ∃ a cap, s = .slice a xs.length cap ∧ (0 < xs.length → ∃ g, a = some ⟨g, 0, none⟩ ∧ g < W.heap.size ∧ ∀ j (hj : j < xs.length), W.cell? ⟨g, j, none⟩ = some (.string xs[j])) := by
  rcases h.2 with ⟨e, h0⟩ | ⟨g, cap, cur, rfl, hb, hg, _⟩
  · exact ⟨none, 0, by rw [e, h0], fun hp => by omega⟩
  · refine ⟨_, cap, rfl, fun hp => ⟨g, rfl, (Array.getElem?_eq_some_iff.1 hg).1, fun j hj => ?_⟩⟩
    have := World.ownsRow.cellAt h j (by omega)
    rw [this]
    simp [strs, hj]
theorem strs_snoc (xs : List ByteArray) (x : ByteArray) : strs (xs ++ [x]) = strs xs ++ [.string x] := by simp [strs]
theorem infoStr : (Tryd.prog.info? 9).map (fun i => (i.zero, i.size, i.bytes)) = some (some (.string ⟨#[]⟩), 1, 16) := by kernel_rfl
theorem one_cell_str (x : ByteArray) : ∀ u ∈ [Value.string x], u.oneCell' = true := by intro u hu; simp at hu; subst hu; rfl
/-- The formulas at the places. -/
def Fm.kids : Fm → List Fm
  | .leaf _ => []
  | .one _ a => [a]
  | .two _ a b => [a, b]
  | .three _ a b d => [a, b, d]
def Fm.head : Fm → UInt8
  | .leaf c => c
  | .one c _ => c
  | .two c _ _ => c
  | .three c _ _ _ => c
theorem Fm.txt_kids (f : Fm) : f.txt = f.head :: (f.kids.map Fm.txt).flatten := by cases f <;> simp [Fm.txt, Fm.head, Fm.kids]
theorem Fm.kids_wf {f : Fm} (h : f.wf) : ∀ g ∈ f.kids, g.wf := by
  cases f <;> simp [Fm.kids, Fm.wf] at *
  · exact h.2
  · exact ⟨h.2.1, h.2.2⟩
  · exact ⟨h.2.1, h.2.2.1, h.2.2.2⟩
theorem Fm.kids_lt {f : Fm} : ∀ g ∈ f.kids, g.txt.length < f.txt.length := by
  cases f <;> simp [Fm.kids, Fm.txt] <;> omega
/-- A text as bytes. -/
def Fm.bytes (f : Fm) : ByteArray := ⟨f.txt.toArray⟩
theorem Fm.bytes_list (f : Fm) : f.bytes.data.toList = f.txt := by simp [Fm.bytes]
theorem Fm.bytes_size (f : Fm) : f.bytes.size = f.txt.length := by show f.txt.toArray.size = _; simp
theorem bytes_of {s : ByteArray} {f : Fm} (h : s.data.toList = f.txt) : s = f.bytes := by
  apply ByteArray.ext
  unfold Fm.bytes
  rw [← h]
/-- Where the kid j begins. -/
def Fm.pos (f : Fm) (j : Nat) : Nat := 1 + ((f.kids.take j).map Fm.txt).flatten.length
theorem Fm.pos_drop (f : Fm) (j : Nat) : f.txt.drop (f.pos j) = ((f.kids.drop j).map Fm.txt).flatten := by
  rw [f.txt_kids]
  unfold Fm.pos
  rw [Nat.add_comm, List.drop_succ_cons]
  conv => lhs; arg 2; rw [← List.take_append_drop j f.kids]
  rw [List.map_append, List.flatten_append, List.drop_left]
theorem Fm.pos_succ (f : Fm) (j : Nat) (h : j < f.kids.length) : f.pos (j + 1) = f.pos j + (f.kids[j]).txt.length := by
  unfold Fm.pos
  rw [List.take_succ_eq_append_getElem h, List.map_append, List.flatten_append, List.length_append, ← Nat.add_assoc]
  simp only [List.map_cons, List.map_nil, List.flatten_cons, List.flatten_nil, List.append_nil]
theorem Fm.pos_all (f : Fm) : f.pos f.kids.length = f.txt.length := by
  unfold Fm.pos
  rw [List.take_length, f.txt_kids, List.length_cons]
  omega
theorem Fm.pos_le (f : Fm) (j : Nat) (h : j < f.kids.length) : f.pos j + (f.kids[j]).txt.length ≤ f.txt.length := by
  have h1 := f.pos_drop j
  rw [List.drop_eq_getElem_cons h, List.map_cons, List.flatten_cons] at h1
  have h2 := congrArg List.length h1
  rw [List.length_drop, List.length_append] at h2
  have h3 := (f.kids[j]).txt_pos
  omega
theorem Fm.pos_end {f : Fm} (w : f.wf) (j : Nat) (h : j < f.kids.length) : endI f.bytes (f.pos j) = ((f.pos (j + 1) : Nat) : Int) := by
  unfold endI
  rw [f.bytes_list, f.pos_drop, List.drop_eq_getElem_cons h, List.map_cons, List.flatten_cons, rdF_some.2 ⟨rfl, Fm.kids_wf w _ (List.getElem_mem h)⟩, f.pos_succ j h]
theorem Fm.pos_part (f : Fm) (j : Nat) (h : j < f.kids.length) : f.bytes.extract (f.pos j) (f.pos (j + 1)) = (f.kids[j]).bytes := by
  apply bytes_of
  have e : (f.bytes.extract (f.pos j) (f.pos (j + 1))).data.toList = (f.bytes.data.toList.drop (f.pos j)).take (f.pos (j + 1) - f.pos j) := by
    rw [ByteArray.data_extract, Array.toList_extract]
  rw [e, f.bytes_list, f.pos_drop, List.drop_eq_getElem_cons h, List.map_cons, List.flatten_cons, f.pos_succ j h, Nat.add_sub_cancel_left, List.take_left]
/-- The texts of the kids. -/
def Fm.partsTo (f : Fm) (j : Nat) : List ByteArray := (f.kids.take j).map Fm.bytes
theorem Fm.partsTo_succ (f : Fm) (j : Nat) (h : j < f.kids.length) : f.partsTo (j + 1) = f.partsTo j ++ [(f.kids[j]).bytes] := by
  unfold Fm.partsTo
  rw [List.take_succ_eq_append_getElem h, List.map_append]
  rfl
theorem Fm.partsTo_len (f : Fm) (j : Nat) (h : j ≤ f.kids.length) : (f.partsTo j).length = j := by simp [Fm.partsTo, h]
theorem Fm.kids_le (f : Fm) : f.kids.length ≤ 3 := by cases f <;> simp [Fm.kids]
def PartsPost (f : Fm) (w : World) (e : Ending) (w' : World) : Prop := ∃ s, e = .returned s ∧ OwnsS w' w.heap.size s (f.kids.map Fm.bytes) ∧ Below w.heap.size w w'
set_option maxRecDepth 100000 in
set_option maxHeartbeats 8000000 in
theorem l05Parts_any {f : Fm} (wf : f.wf) (h60 : f.txt.length ≤ 1048576) (w : World) :
    Calls Tryd.prog 63 #[.string f.bytes] w (PartsPost f w) := by
  obtain ⟨i0, hi, hz0, hz1, hz2⟩ := info_parts infoStr
  have hsz := Lib.hid f.bytes_size
  have hb0 : Below w.heap.size w (w.alloc (.cells #[] 9)) := bnew _ _
  have OW := Lib.hid (show OwnsS (w.alloc (.cells #[] 9)) w.heap.size (.slice (some ⟨w.heap.size, 0, none⟩) 0 0) (f.partsTo 0) from World.ownsRow_lit w #[] 0 (Nat.le_refl _) (by decide) rfl)
  have HB0 := Lib.hid hb0
  have hk3 := f.kids_le
  have hsz0 : w.heap.size ≤ (w.alloc (.cells #[] 9)).heap.size := hb0.size
  clear hb0
  go_enter Tryd.func63, Tryd.ntmps63
  go_wp2_with fail
  go_loopw [3, 4] (fun s i wr => ∃ j : Nat, j ≤ f.kids.length ∧ i = .int .i64 (f.pos j : Nat) ∧ Hid (OwnsS wr w.heap.size s (f.partsTo j)) ∧ Below w.heap.size (w.alloc (.cells #[] 9)) wr) (fun _ i _ => f.txt.length - (intOf i).toNat)
  case atStart => exact ⟨0, Nat.zero_le _, by simp [Fm.pos], OW, Below.refl _ _⟩
  case round =>
    clear OW
    obtain ⟨j, hj, rfl, O, hN⟩ := hrel
    have hszr : w.heap.size ≤ wr.heap.size := Nat.le_trans hsz0 hN.size
    by_cases hlt : j < f.kids.length
    · have p1 := f.pos_le j hlt
      have p2 := f.pos_succ j hlt
      have p3 := (f.kids[j]).txt_pos
      have EP := Lib.hid (f.pos_part j hlt)
      have ES := Lib.hid (f.partsTo_succ j hlt)
      have E := Lib.hid (fun w => l05End_any f.bytes (by rw [hsz.out]; exact h60) f.bytes.size (f.pos j) (by rw [hsz.out]; omega) (by omega) w)
      rw [Fm.pos_end wf j hlt] at E
      obtain ⟨p, hp⟩ : ∃ p, f.pos j = p := ⟨_, rfl⟩
      obtain ⟨q, hq⟩ : ∃ q, f.pos (j + 1) = q := ⟨_, rfl⟩
      rw [hp] at p1 p2 EP E
      rw [hq] at p2 EP E
      have HQ := Lib.hid hq
      rw [hp]
      have hz : f.bytes.size = f.txt.length := hsz.out
      have hlt2 : decide ((p : Int) < (f.bytes.size : Int)) = true := by simp; omega
      have hpq : p < q := by omega
      have hqz : q ≤ f.bytes.size := by omega
      have PL := Lib.hid (f.partsTo_len j (by omega))
      have HM := Lib.hid (show f.txt.length - q < f.txt.length - p by omega)
      clear hp hq p1 p2 p3 hz
      have hown5 := O.out
      unfold OwnsS at hown5
      rw [PL.out] at hown5
      have HN := Lib.hid hN
      clear hN O
      go_wp2_with (first
        | (go_at_call 73; refine (E.out _).mono ?_; rintro e w' ⟨rfl, rfl⟩)
        | (at_builtin; refine wpList_append_own _ rfl _ _ 38 rfl w.heap.size 9 i0 (.string ⟨#[]⟩) 1 16 Tryd.underlying38 hi hz0 hz1 hz2 rfl (by decide) _ _ _ rfl (hown5.alloc _) ⟨wr.heap.size, 0, none⟩ 1 1 [.string (f.bytes.extract p q)] rfl rfl (cell_one_new _ _ _) (one_cell_str _) (by unfold maxLen; omega) (by omega) (by simp; omega) ?_))
      intro v' w9 hown' hgrow _
      have N9 := Lib.hid ((HN.out.alloc hszr (.cells #[.string (f.bytes.extract p q)] 9)).grown hgrow (by simp; omega) (fun j e => (hown5.lt j e).1))
      have O9 := Lib.hid (show OwnsS w9 w.heap.size v' (f.partsTo (j + 1)) by
        rw [ES.out, ← EP.out]
        unfold OwnsS
        rw [strs_snoc, List.length_append, PL.out]
        exact hown')
      clear hgrow hown5 hown'
      go_wp2
      go_roundw
      case rel => exact ⟨j + 1, by omega, by rw [HQ.out], O9, N9.out⟩
      case measure => simp [intOf]; have := HM.out; omega
    · obtain rfl : j = f.kids.length := by omega
      have hpz := f.pos_all
      have hz : f.bytes.size = f.txt.length := hsz.out
      have E1 := Lib.hid (show f.partsTo f.kids.length = f.kids.map Fm.bytes by unfold Fm.partsTo; rw [List.take_length])
      have hlt2 : decide (f.pos f.kids.length < f.bytes.size) = false := by simp; omega
      have HF := Lib.hid (show Below w.heap.size w wr from HB0.out.trans hN)
      clear hpz hz hN
      generalize f.pos f.kids.length = pp at *
      go_wp2_with fail
      go_ret
      exact ⟨_, rfl, by rw [← E1.out]; exact O.out, HF.out⟩
end Go.Proofs.YtleighihfgabkaaDoor
