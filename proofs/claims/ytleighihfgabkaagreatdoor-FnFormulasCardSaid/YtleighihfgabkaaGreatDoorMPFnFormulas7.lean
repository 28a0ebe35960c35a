/-
  The texts PF4, PF5, PF6, BW, SH, PU1, PF7 in one.
-/
import Derived.Test.YtleighihfgabkaaGreatDoorMPFnFormulas6
import Derived.Defers
import Derived.Recover
import Derived.Lib.Strings
import Derived.Lib.Slices
import Derived.Lib.Walk
import Derived.Lib.Builder
import Derived.Lib.AppendStr
import Derived.Lib.UnsafeStr
import Derived.Lib.MakeNoZero
import Derived.WalkKit
import Derived.Laws.Externs
import Derived.Laws.IdiomCopy
import Derived.Laws.BitsLemmas
import GoSem.Claims
import Derived.Shelf.Strings.Builder1
import Derived.Shelf.Small.Utf8
import Derived.Shelf.Small.Strs
import Derived.Shelf.Strings.Search1
import Derived.Shelf.Strings.Runes
import Derived.Shelf.Strings.IndexAny
import Derived.Shelf.Strings.AsciiSet
import Derived.Shelf.Strings.IndexAnyAll
import Derived.Test.YtleighihfgabkaaGreatDoorProg

/- PF4:
  The formula with which a text begins, read in. -/
namespace Go.Proofs.YtleighihfgabkaaGreatDoor
open Go.RowKit
set_option linter.unusedVariables false
set_option linter.unusedSimpArgs false
/-- What reading in leaves: the node of the first formula, or a panic. -/
def FirstPost (s : ByteArray) (a : Addr) (w : World) (e : Ending) (w' : World) : Prop :=
  Below w.heap.size w w' ∧ match rdF s.data.toList with
    | some p => ∃ b, e = .returned (pNode b) ∧ IsNode w' p.1 w.heap.size b
    | none => e = .panicked (chainOf a)
theorem first_some {s : ByteArray} {a : Addr} {p : Fm × List UInt8} (hr : rdF s.data.toList = some p) {w : World} (h : Calls Tryz.prog 127 #[.string s] w (FirstPost s a w)) :
    Calls Tryz.prog 127 #[.string s] w fun e w' => Below w.heap.size w w' ∧ ∃ b, e = .returned (.pointer (some ⟨b, 0, none⟩)) ∧ IsNode w' p.1 w.heap.size b := by
  unfold FirstPost at h
  rw [hr] at h
  exact h
theorem first_none {s : ByteArray} {a : Addr} (hr : rdF s.data.toList = none) {w : World} (h : Calls Tryz.prog 127 #[.string s] w (FirstPost s a w)) :
    Calls Tryz.prog 127 #[.string s] w fun e w' => Below w.heap.size w w' ∧ e = .panicked (chainOf a) := by
  unfold FirstPost at h
  rw [hr] at h
  exact h
theorem ErrAt.below {w w' : World} {a : Addr} (h : ErrAt w a) (hb : Below w.heap.size w w') : ErrAt w' a := kc hb h
/-- What holds while the kids are read in: the node lies in the block B. -/
structure FSt (W0 : World) (u : TypeId) (x : Value) (ks : List Fm) (sl : Value) (W : World) : Prop where
  c0 : W.cell? ⟨W0.heap.size, 0, none⟩ = some (.string ⟨#[]⟩)
  c1 : W.cell? ⟨W0.heap.size, 1, none⟩ = some (.iface u x)
  c2 : W.cell? ⟨W0.heap.size, 2, none⟩ = some sl
  f0 : W.frozen? ⟨W0.heap.size, 0, none⟩ = false
  f1 : W.frozen? ⟨W0.heap.size, 1, none⟩ = false
  f2 : W.frozen? ⟨W0.heap.size, 2, none⟩ = false
  b : Below W0.heap.size W0 W
  k : KidsIn W (W0.heap.size + 1) ks sl
theorem FSt.below {W0 : World} {u : TypeId} {x : Value} {ks : List Fm} {sl : Value} {W W' : World} (h : FSt W0 u x ks sl W) (hb : Below W.heap.size W W') : FSt W0 u x ks sl W' :=
  ⟨kc hb h.c0, kc hb h.c1, kc hb h.c2, kf hb h.c0 h.f0, kf hb h.c1 h.f1, kf hb h.c2 h.f2, bthen h.b hb, h.k.below hb⟩
theorem Nd.wide {W : World} {n : Nat} {f : Fm} {lo hi hi' b : Nat} (hh : hi ≤ hi') (h : Nd W n f lo hi b) : Nd W n f lo hi' b := by
  cases n with
  | zero => exact h.elim
  | succ n =>
    obtain ⟨h1, h2, h3, h4, s, h5, h6⟩ := h
    refine ⟨h1, by omega, h3, h4, s, h5, ?_⟩
    rcases h6 with h6 | ⟨h0, g, cap, e, hg1, hg2, hk⟩
    · exact .inl h6
    · refine .inr ⟨h0, g, cap, e, hg1, by omega, fun i hi' => ?_⟩
      obtain ⟨kb, kl, kh, c1, c2, c3, c4⟩ := hk i hi'
      exact ⟨kb, kl, kh, c1, c2, by omega, c4⟩
/-- One kid more. -/
theorem FSt.step {W0 : World} {u : TypeId} {x : Value} {ks : List Fm} {sl : Value} {W W9 : World} (h : FSt W0 u x ks sl W) {k : Fm} {kl b g' c' : Nat} {o : Obj} (hsl : ∀ g, sl.ownBlock = some g → g < kl) (hkl : W0.heap.size + 1 ≤ kl) (hN : IsNode W k kl b)
    (ps : List Nat) (h1 : ps.length = ks.length) (h3 : ∀ i (h : i < ks.length) (h' : i < ps.length), ∃ kl kh, W0.heap.size + 1 ≤ kl ∧ kh ≤ W.heap.size ∧ Nd W (ks[i]).txt.length ks[i] kl kh ps[i] ∧ ∀ g, sl.ownBlock = some g → g < kl ∨ kh ≤ g)
    (hown : W9.ownsRow (W0.heap.size + 1) 64 1 (.slice (some ⟨g', 0, none⟩) (ks.length + 1) c') (ks.length + 1) (ps.map pNode ++ [pNode b]))
    (hgrow : (W.alloc o).grownBy W9 sl.ownBlock) (hg : sl.ownBlock = some g' ∨ W.heap.size + 1 ≤ g') :
    FSt W0 u x (ks ++ [k]) (.slice (some ⟨g', 0, none⟩) (ks.length + 1) c') (W9.setCell ⟨W0.heap.size, 2, none⟩ (.slice (some ⟨g', 0, none⟩) (ks.length + 1) c')) := by
  obtain ⟨hi, n0, n1, n2⟩ := hN
  have hB : W0.heap.size < W.heap.size := cell_lt h.c0
  have hsz : W.heap.size + 1 ≤ W9.heap.size := by have := hgrow.size; simpa using this
  have hrow : ∀ g, sl.ownBlock = some g → W0.heap.size + 1 ≤ g := fun g e => by
    obtain ⟨_, _, _, d2, _⟩ := h.k
    exact (ownsRow_at d2 e).1
  have hne : ¬ sl.ownBlock = some W0.heap.size := fun e => by have := hrow _ e; omega
  have hg1 : W0.heap.size + 1 ≤ g' := by
    rcases hg with e | e
    · exact hrow _ e
    · omega
  -- what lay in W lies in W9, but for the row
  have hk : ∀ g, g < W.heap.size → ¬ sl.ownBlock = some g → W9.heap[g]? = W.heap[g]? := fun g hg' hne' => by
    rw [hgrow.block g (by simp; omega) (fun e => hne' e.symm)]
    exact (bnew W o).block g hg'
  have hc : ∀ j, W9.cell? ⟨W0.heap.size, j, none⟩ = W.cell? ⟨W0.heap.size, j, none⟩ := fun j => World.cell?_of_block (w := W) (a := ⟨W0.heap.size, j, none⟩) (hk _ hB hne)
  have hf : ∀ j, W9.frozen? ⟨W0.heap.size, j, none⟩ = W.frozen? ⟨W0.heap.size, j, none⟩ := fun j => World.frozen?_of_block (w := W) (a := ⟨W0.heap.size, j, none⟩) (hk _ hB hne)
  have b9 : Below W0.heap.size W0 W9 := ⟨by rw [hgrow.os]; exact (bthen h.b (bnew W o)).os, by rw [hgrow.tape]; exact (bthen h.b (bnew W o)).tape, by rw [hgrow.output]; exact (bthen h.b (bnew W o)).output, by omega, fun g hg' => by
    rw [hk g (by omega) (fun e => by have := hrow _ e; omega)]
    exact h.b.block g hg'⟩
  have kk : KidsIn W9 (W0.heap.size + 1) (ks ++ [k]) (.slice (some ⟨g', 0, none⟩) (ks.length + 1) c') :=
    KidsIn.snoc (W := W) ps h1 h3 (Nd.wide n1 n2) hkl hsl hown (by omega) hk (by rcases hg with e | e; exact .inl e; exact .inr (by omega))
  refine ⟨?_, ?_, ?_, ?_, ?_, ?_, b9.setCell (p := ⟨W0.heap.size, 2, none⟩) (Nat.le_refl _) _, ?_⟩
  · simp [go_sem, hc, h.c0]
  · simp [go_sem, hc, h.c1]
  · simp [go_sem, hc, h.c2]
  · rw [World.frozen?_setCell, hf]; exact h.f0
  · rw [World.frozen?_setCell, hf]; exact h.f1
  · rw [World.frozen?_setCell, hf]; exact h.f2
  · exact kk.keep (by simp) fun g hg1 _ => Below.heap_setCell _ _ _ g (by intro e; simp at e; omega)
theorem Nd.lower {W : World} {n : Nat} {f : Fm} {lo lo' hi b : Nat} (hh : lo' ≤ lo) (h : Nd W n f lo hi b) : Nd W n f lo' hi b := by
  cases n with
  | zero => exact h.elim
  | succ n =>
    obtain ⟨h1, h2, h3, h4, s, h5, h6⟩ := h
    refine ⟨by omega, h2, h3, h4, s, h5, ?_⟩
    rcases h6 with h6 | ⟨h0, g, cap, e, hg1, hg2, hk⟩
    · exact .inl h6
    · refine .inr ⟨h0, g, cap, e, by omega, hg2, fun i hi' => ?_⟩
      obtain ⟨kb, kl, kh, c1, c2, c3, c4⟩ := hk i hi'
      exact ⟨kb, kl, kh, c1, by omega, c3, c4⟩
/-- What a node leads to, as a reader wants it. -/
def KidsOf (W : World) (f : Fm) (s : Value) : Prop :=
  (f.kids.length = 0 ∧ s = .slice none 0 0) ∨ (0 < f.kids.length ∧ ∃ g cap, s = .slice (some ⟨g, 0, none⟩) f.kids.length cap ∧ ∀ i (h : i < f.kids.length), ∃ kb, W.cell? ⟨g, i, none⟩ = some (.pointer (some ⟨kb, 0, none⟩)) ∧ IsNode W f.kids[i] 0 kb)
theorem Nd.fit {W : World} : ∀ (n : Nat) (f : Fm) (lo hi b : Nat), Nd W n f lo hi b → Nd W f.txt.length f lo hi b := by
  intro n
  induction n with
  | zero => intro f lo hi b h; exact h.elim
  | succ n ih =>
    intro f lo hi b ⟨h1, h2, h3, h4, s, h5, h6⟩
    obtain ⟨m, hm⟩ : ∃ m, f.txt.length = m + 1 := ⟨f.txt.length - 1, by have := f.txt_pos; omega⟩
    rw [hm]
    refine ⟨h1, h2, h3, h4, s, h5, ?_⟩
    rcases h6 with h6 | ⟨h0, g, cap, e, hg1, hg2, hk⟩
    · exact .inl h6
    · refine .inr ⟨h0, g, cap, e, hg1, hg2, fun i hi' => ?_⟩
      obtain ⟨kb, kl, kh, c1, c2, c3, c4⟩ := hk i hi'
      have := Fm.kids_lt (f := f) _ (List.getElem_mem hi')
      exact ⟨kb, kl, kh, c1, c2, c3, Nd.more _ _ _ _ _ _ (by omega) (ih _ _ _ _ c4)⟩
theorem IsNode.open {W : World} {f : Fm} {lo b : Nat} (h : IsNode W f lo b) : (lo ≤ b ∧ b < W.heap.size) ∧ W.cell? ⟨b, 0, none⟩ = some (.string f.bytes) ∧ W.cell? ⟨b, 1, none⟩ = some (gV f.head) ∧ ∃ s, W.cell? ⟨b, 2, none⟩ = some s ∧ KidsOf W f s := by
  obtain ⟨hi, h0, h1, h2⟩ := h
  obtain ⟨m, hm⟩ : ∃ m, f.txt.length = m + 1 := ⟨f.txt.length - 1, by have := f.txt_pos; omega⟩
  rw [hm] at h2
  obtain ⟨d1, d2, d3, d4, s, d5, d6⟩ := h2
  refine ⟨⟨d1, by omega⟩, d3, d4, s, d5, ?_⟩
  rcases d6 with d6 | ⟨e0, g, cap, e, hg1, hg2, hk⟩
  · exact .inl d6
  · refine .inr ⟨e0, g, cap, e, fun i hi' => ?_⟩
    obtain ⟨kb, kl, kh, c1, c2, c3, c4⟩ := hk i hi'
    exact ⟨kb, c1, kh, Nat.zero_le _, by omega, Nd.fit _ _ _ _ _ (Nd.lower (Nat.zero_le _) c4)⟩
theorem infoPN : (Tryz.prog.info? 64).map (fun i => (i.zero, i.size, i.bytes)) = some (some (.pointer none), 1, 8) := by kernel_rfl
theorem one_cell_node (b : Nat) : ∀ u ∈ [pNode b], u.oneCell' = true := by intro u hu; simp at hu; subst hu; rfl
theorem rest_list (s : ByteArray) (p : Nat) : (s.extract p s.size).data.toList = s.data.toList.drop p := by
  rw [ByteArray.data_extract, Array.toList_extract]
  have : s.data.toList.length = s.size := Array.length_toList
  rw [← this]
  apply List.take_of_length_le
  simp
theorem rest_size (s : ByteArray) (p : Nat) (h : p ≤ s.size) : (s.extract p s.size).size = s.size - p := by
  rw [ByteArray.size_extract, Nat.min_self]
theorem head_list (s : ByteArray) (p : Nat) (h : p ≤ s.size) : (s.extract 0 p).data.toList = s.data.toList.take p := by
  rw [ByteArray.data_extract, Array.toList_extract]
  simp
set_option maxRecDepth 100000 in
set_option maxHeartbeats 16000000 in
theorem firstFormula_any (a : Addr) : ∀ (n : Nat) (s : ByteArray), s.size ≤ n → s.size ≤ 1048576 → ∀ w, ErrAt w a → Calls Tryz.prog 127 #[.string s] w (FirstPost s a w) := by
  intro n
  induction n with
  | zero =>
    intro s hn hs w hE
    have hz : s.toList.isEmpty = true := by
      rw [Lib.toList_data, List.isEmpty_iff, ← List.length_eq_zero_iff, Array.length_toList]
      exact Nat.le_zero.1 hn
    have hr : rdF s.data.toList = none := by
      rw [show s.data.toList = [] from List.eq_nil_of_length_eq_zero (by rw [Array.length_toList]; exact Nat.le_zero.1 hn)]
      rfl
    unfold ErrAt errV at hE
    have HR := Lib.hid hr
    clear hr
    go_enter Tryz.func127, Tryz.ntmps127
    go_wp2_with fail
    exact ⟨rfl, Below.refl _ _, by rw [HR.out]; try rfl⟩
  | succ n ih =>
    intro s hn hs w hE
    by_cases h0 : s.size = 0
    · have hz : s.toList.isEmpty = true := by
        rw [Lib.toList_data, List.isEmpty_iff, ← List.length_eq_zero_iff, Array.length_toList]
        exact h0
      have hr : rdF s.data.toList = none := by
        rw [show s.data.toList = [] from List.eq_nil_of_length_eq_zero (by rw [Array.length_toList]; exact h0)]
        rfl
      unfold ErrAt errV at hE
      have HR := Lib.hid hr
      clear hr ih
      go_enter Tryz.func127, Tryz.ntmps127
      go_wp2_with fail
      exact ⟨rfl, Below.refl _ _, by rw [HR.out]; try rfl⟩
    · have hz : s.toList.isEmpty = false := by
        rw [Lib.toList_data, Bool.eq_false_iff]
        intro h
        rw [List.isEmpty_iff, ← List.length_eq_zero_iff, Array.length_toList] at h
        exact h0 h
      have hlt : 0 < s.size := by omega
      have hb := drop_byte s 0 hlt
      rw [List.drop_zero] at hb
      cases hc : plc s[0] with
      | none =>
        have hr : rdF s.data.toList = none := by rw [hb, rdF_bad hc]
        have G := Lib.hid (fun (_ : Unit) => gateFor_no (z := s[0]) rfl (by rw [← plc_is, hc]; rfl) a w hE)
        have HR := Lib.hid hr
        clear hr hb hc
        go_enter Tryz.func127, Tryz.ntmps127
        go_wp2_with (go_at_call 137; refine (G.out ()).mono ?_; rintro e w' ⟨rfl, rfl⟩)
        exact ⟨rfl, Below.refl _ _, by rw [HR.out]; try rfl⟩
      | some m =>
        have hm := plc_le hc
        obtain ⟨u, x, K, r, hv, hd, hp⟩ := gateP hc
        have G := Lib.hid (fun w => gateFor_any (z := s[0]) (by rw [hc]; rfl) w)
        rw [hv] at G
        have hdm := hd.m
        have hdc := hd.c
        have HP := Lib.hid hp
        have HX := Lib.hid (show rdF s.data.toList = (rdL m (s.data.toList.drop 1)).map fun q => (mkF s[0] q.1, q.2) by rw [hb]; exact rdF_head hc)
        have HV := Lib.hid hv
        have HC := Lib.hid hc
        clear hp hd hb hc hv
        obtain ⟨i0, hi, hz0, hz1, hz2⟩ := info_parts infoPN
        obtain ⟨W1, hW1⟩ : ∃ W1, w.alloc (.cells #[.string ⟨#[]⟩, .iface u x, .slice none 0 0] 80) = W1 := ⟨_, rfl⟩
        have S1 := Lib.hid (show FSt w u x [] (.slice none 0 0) W1 by
          rw [← hW1]
          refine ⟨by simp [go_sem], by simp [go_sem], by simp [go_sem], by simp [go_sem], by simp [go_sem], by simp [go_sem], bnew _ _, KidsIn.nil _ _⟩)
        have c1 := S1.out.c1
        go_enter Tryz.func127, Tryz.ntmps127
        go_wp2_with (first
          | (go_at_call 137; refine (G.out _).mono ?_; rintro e w' ⟨rfl, rfl⟩)
          | (refine (HP.out _).mono ?_; rintro e w2 ⟨rfl, hb2⟩))
        have S2 := Lib.hid (S1.out.below hb2)
        have HE := Lib.hid (fun wr (hb : Below w.heap.size w wr) => hE.below hb)
        have IH := Lib.hid ih
        have hB0 : w.heap.size < w2.heap.size := cell_lt S2.out.c0
        clear S1 hW1 c1 hb2 hdm hdc hE ih G HP
        go_loopw [4, 19] (fun len i wr => ∃ (ks : List Fm) (p : Nat) (sl : Value), i = .int .i64 (ks.length : Nat) ∧ len = .int .i64 (p : Nat) ∧ (ks.length ≤ m ∧ ks.length < p ∧ p ≤ s.size) ∧ Hid (rdL m (s.data.toList.drop 1) = (rdL (m - ks.length) (s.data.toList.drop p)).map fun q => (ks ++ q.1, q.2)) ∧ Hid (FSt w u x ks sl wr)) (fun _ i _ => m - (intOf i).toNat)
        case atStart =>
          refine ⟨[], 1, .slice none 0 0, rfl, rfl, ⟨Nat.zero_le _, by simp, by omega⟩, Lib.hid ?_, S2⟩
          simp
        case round =>
          clear S2
          obtain ⟨ks, p, sl, rfl, rfl, ⟨k1, k2, k3⟩, R, ST⟩ := hrel
          have HW := Lib.hid (HE.out wr ST.out.b)
          by_cases hk : ks.length < m
          · have hd : decide ((ks.length : Int) < (m : Int)) = true := by simp; omega
            have hp1 : (p : Int) ≤ (s.size : Int) := by omega
            have hp0 : (0 : Int) ≤ (p : Int) := by omega
            obtain ⟨j, hj⟩ : ∃ j, m - ks.length = j + 1 := ⟨m - ks.length - 1, by omega⟩
            rw [hj] at R
            have I0 := Lib.hid (IH.out (s.extract p s.size) (by rw [rest_size s p k3]; omega) (by rw [rest_size s p k3]; omega) wr HW.out)
            cases hr : rdF (s.data.toList.drop p) with
            | none =>
              have I := Lib.hid (first_none (by rw [rest_list]; exact hr) I0.out)
              have HN := Lib.hid (show rdF s.data.toList = none by rw [HX.out, R.out]; simp only [rdL, hr, Option.map_none])
              clear I0 hr R HX IH
              go_wp2_with (go_at_call 127; refine (I.out).mono ?_; rintro e w3 ⟨hb3, rfl⟩)
              exact ⟨rfl, bthen ST.out.b hb3, by rw [HN.out]; try rfl⟩
            | some q =>
              have I := Lib.hid (first_some (by rw [rest_list]; exact hr) I0.out)
              have hle := rdF_le hr
              have HR := Lib.hid (show rdL m (s.data.toList.drop 1) = (rdL (m - (ks.length + 1)) (s.data.toList.drop (p + q.1.txt.length))).map fun r => ((ks ++ [q.1]) ++ r.1, r.2) by
                rw [R.out]
                have e1 := drop_rest (rdF_some.1 hr).1
                simp only [rdL, hr, Option.map_map]
                rw [e1, show m - (ks.length + 1) = j by omega]
                congr 1
                funext r
                simp)
              have hqp := q.1.txt_pos
              have HZ := Lib.hid q.1.bytes_size
              obtain ⟨k, hkq⟩ : ∃ k, q.1 = k := ⟨_, rfl⟩
              rw [hkq] at I HZ HR hle hqp
              obtain ⟨t, ht⟩ : ∃ t, k.bytes = t := ⟨_, rfl⟩
              rw [ht] at HZ
              have hz2' := HZ.out
              have eN : IntKind.i64.wrap ((p : Int) + (t.size : Int)) = ((p + t.size : Nat) : Int) := by rw [wrap64_small (by omega) (by omega)]; omega
              have HT := Lib.hid ht
              have hkl := ST.out.k
              have hszr : w.heap.size < wr.heap.size := cell_lt ST.out.c0
              rw [← HZ.out] at HR hle hqp
              clear I0 hr R HX IH hkq HW ht hz2'
              go_wp2_with (first
                | (go_at_call 127; refine (I.out).mono ?_; rintro e w3 ⟨hb3, b, rfl, hN⟩
                   have S3 := Lib.hid (ST.out.below hb3)
                   have c2 := S3.out.c2
                   obtain ⟨_, ps, ep, hown, hk3⟩ := S3.out.k
                   have HK3 := Lib.hid hk3
                   have hB3 : w.heap.size < w3.heap.size := cell_lt S3.out.c0
                   have hs3 : wr.heap.size ≤ w3.heap.size := hb3.size
                   clear hk3)
                | (at_builtin; refine wpList_append_at rfl _ _ 78 rfl (w.heap.size + 1) 64 i0 (.pointer none) 1 8 Tryz.underlying78 hi hz0 hz1 hz2 rfl (by decide) ks.length sl (ps.map pNode) rfl (hown.alloc _) ⟨w3.heap.size, 0, none⟩ 1 1 [pNode b] rfl rfl (cell_one_new _ _ _) (one_cell_node _) (by unfold maxLen; omega) (by omega) (by simp; omega) (by decide) ?_))
              intro g' c' w9 hown' hgrow hgg
              have hsl : ∀ g, sl.ownBlock = some g → w.heap.size + 1 ≤ g ∧ g < wr.heap.size := fun g e => by
                obtain ⟨_, _, _, d2, _⟩ := hkl
                exact ownsRow_at d2 e
              obtain ⟨⟨hbl, hbs⟩, cb, _⟩ := hN.open
              have S9 := Lib.hid (S3.out.step (k := k) (kl := wr.heap.size) (fun g e => (hsl g e).2) hszr hN ps ep HK3.out hown' hgrow hgg)
              have cbx : w9.cell? ⟨b, 0, none⟩ = some (.string t) := by
                rw [← HT.out, ← cb]
                exact (World.cell?_of_block (w := w3.alloc _) (a := ⟨b, 0, none⟩) (hgrow.block b (by simp; omega) (fun e => by have := (hsl b e.symm).2; omega))).trans ((bnew w3 _).cell (p := ⟨b, 0, none⟩) hbs)
              have c2x : w9.cell? ⟨w.heap.size, 2, none⟩ = some sl := by
                rw [← c2]
                exact (World.cell?_of_block (w := w3.alloc _) (a := ⟨w.heap.size, 2, none⟩) (hgrow.block w.heap.size (by simp; omega) (fun e => by have := (hsl _ e.symm).1; omega))).trans ((bnew w3 _).cell (p := ⟨w.heap.size, 2, none⟩) hB3)
              have f2x : w9.frozen? ⟨w.heap.size, 2, none⟩ = false := by
                rw [← S3.out.f2]
                exact (World.frozen?_of_block (w := w3.alloc _) (a := ⟨w.heap.size, 2, none⟩) (hgrow.block w.heap.size (by simp; omega) (fun e => by have := (hsl _ e.symm).1; omega))).trans ((bnew w3 _).frozen (p := ⟨w.heap.size, 2, none⟩) hB3)
              have hbne : ¬ w.heap.size = b := by omega
              have HZ2 := Lib.hid hz2
              clear hown' hgrow hgg hsl hkl hown c2 cb hN hb3 S3 HK3 ep ps hz0 hz1 hz2 hi
              go_wp2_with fail
              refine ⟨⟨ks ++ [k], p + t.size, _, by simp, by simp, ⟨by simp; omega, by simp; omega, by omega⟩, Lib.hid ?_, S9⟩, by simp [intOf]; omega⟩
              rw [List.length_append]
              exact HR.out
          · obtain rfl : ks.length = m := by omega
            have hd : decide ((ks.length : Int) < (ks.length : Int)) = false := by simp
            have hp1 : (p : Int) ≤ (s.size : Int) := by omega
            have hp0 : (0 : Int) ≤ (p : Int) := by omega
            have HF := Lib.hid (show rdF s.data.toList = some (mkF s[0] ks, s.data.toList.drop p) by
              rw [HX.out, R.out, Nat.sub_self]
              simp [rdL])
            have HT := Lib.hid (show s.extract 0 p = (mkF s[0] ks).bytes by
              apply bytes_of
              rw [head_list s p k3]
              obtain ⟨e1, _⟩ := rdF_some.1 HF.out
              have e2 := congrArg List.length e1
              rw [List.length_append, List.length_drop, Array.length_toList] at e2
              have e3 : s.data.size = s.size := rfl
              rw [e3] at e2
              have e4 : (mkF s[0] ks).txt.length = p := by omega
              conv => lhs; rw [e1, ← e4, List.take_left])
            have c0 := ST.out.c0
            have f0 := ST.out.f0
            clear HX R IH hi hz0 hz1 hz2
            go_wp2_with fail
            go_ret
            refine ⟨ST.out.b.setCell (p := ⟨w.heap.size, 0, none⟩) (Nat.le_refl _) _, ?_⟩
            rw [HF.out]
            refine ⟨w.heap.size, rfl, ?_⟩
            have hB : w.heap.size < wr.heap.size := cell_lt c0
            refine KidsIn.node (sv := sl) (by omega) ?_ (Nat.le_refl _) (by simpa using hB) ?_ ?_ ?_
            · exact ST.out.k.keep (by simp) fun g hg1 _ => Below.heap_setCell _ _ _ g (by intro e; simp at e; omega)
            · rw [← HT.out]; simp [go_sem, c0]
            · rw [HV.out, ← ST.out.c1]; simp [go_sem]
            · rw [← ST.out.c2]; simp [go_sem]
end Go.Proofs.YtleighihfgabkaaGreatDoor

/- PF5:
  A whole formula read in, behind the door that recovers. -/
namespace Go.Proofs.YtleighihfgabkaaGreatDoor
open Go.RowKit
set_option linter.unusedVariables false
set_option linter.unusedSimpArgs false
theorem isFm_false_of {s : ByteArray} (h : rdF s.data.toList = none) : isFm s = false := by
  rw [Bool.eq_false_iff]
  intro e
  obtain ⟨_, f, w, e2⟩ := isFm_iff.1 e
  have := rdF_some.2 (show s.data.toList = f.txt ++ [] ∧ f.wf from ⟨by rw [e2, List.append_nil], w⟩)
  rw [h] at this
  cases this
theorem isFm_false_rest {s : ByteArray} {p : Fm × List UInt8} (h : rdF s.data.toList = some p) (hne : ¬ p.1.bytes = s) : isFm s = false := by
  rw [Bool.eq_false_iff]
  intro e
  obtain ⟨_, f, w, e2⟩ := isFm_iff.1 e
  have := rdF_some.2 (show s.data.toList = f.txt ++ [] ∧ f.wf from ⟨by rw [e2, List.append_nil], w⟩)
  rw [h] at this
  obtain rfl := Option.some.inj this
  exact hne (bytes_of e2).symm
/-- What a reader of a whole text leaves. -/
def WholePost (s : ByteArray) (a : Addr) (w : World) (e : Ending) (w' : World) : Prop :=
  Below w.heap.size w w' ∧ ((isFm s = true ∧ ∃ f b, f.wf ∧ s = f.bytes ∧ e = .returned (.pointer (some ⟨b, 0, none⟩)) ∧ IsNode w' f w.heap.size b) ∨ (isFm s = false ∧ e = .panicked (chainOf a)))
theorem IsNode.any {W : World} {f : Fm} {lo b : Nat} (h : IsNode W f lo b) : IsNode W f 0 b := by
  obtain ⟨hi, h0, h1, h2⟩ := h
  exact ⟨hi, Nat.zero_le _, h1, h2.lower (Nat.zero_le _)⟩
set_option maxRecDepth 100000 in
set_option maxHeartbeats 4000000 in
theorem wholeFormula_any (a : Addr) (s : ByteArray) (w : World) (hE : ErrAt w a) : Calls Tryz.prog 90 #[.string s] w (WholePost s a w) := by
  by_cases h60 : s.size ≤ 60
  · have hd : decide ((60 : Int) < (s.size : Int)) = false := by simp; omega
    have F := Lib.hid (firstFormula_any a s.size s (Nat.le_refl _) (by omega) w hE)
    cases hr : rdF s.data.toList with
    | none =>
      have I := Lib.hid (first_none hr F.out)
      have HN := Lib.hid (isFm_false_of hr)
      clear F hr
      go_enter Tryz.func90, Tryz.ntmps90
      go_wp2_with (go_at_call 127; refine (I.out).mono ?_; rintro e w3 ⟨hb3, rfl⟩)
      exact ⟨rfl, hb3, .inr ⟨HN.out, rfl⟩⟩
    | some p =>
      have I := Lib.hid (first_some hr F.out)
      have HR := Lib.hid hr
      clear F hr
      by_cases he : p.1.bytes = s
      · have hq : (p.1.bytes.toList == s.toList) = true := by rw [he]; exact beq_self_eq_true _
        have HN := Lib.hid (show isFm s = true from isFm_iff.2 ⟨h60, p.1, (rdF_some.1 HR.out).2, by rw [← he, Fm.bytes_list]⟩)
        have HW := Lib.hid (rdF_some.1 HR.out).2
        have HE := Lib.hid he
        clear he
        go_enter Tryz.func90, Tryz.ntmps90
        go_wp2_with (go_at_call 127; refine (I.out).mono ?_; rintro e w3 ⟨hb3, b, rfl, hN⟩; obtain ⟨_, cb, _⟩ := hN.open)
        go_ret
        exact ⟨hb3, .inl ⟨HN.out, p.1, b, HW.out, HE.out.symm, rfl, hN⟩⟩
      · have hq : (p.1.bytes.toList == s.toList) = false := by
          rw [Bool.eq_false_iff]
          intro e
          apply he
          apply ByteArray.ext
          apply Array.toList_inj.1
          rw [← Lib.toList_data, ← Lib.toList_data]
          exact beq_iff_eq.1 e
        have HN := Lib.hid (isFm_false_rest HR.out he)
        clear he
        go_enter Tryz.func90, Tryz.ntmps90
        go_wp2_with (go_at_call 127; refine (I.out).mono ?_; rintro e w3 ⟨hb3, b, rfl, hN⟩; obtain ⟨_, cb, _⟩ := hN.open; have hE3 := hE.below hb3; unfold ErrAt errV at hE3)
        exact ⟨rfl, hb3, .inr ⟨HN.out, rfl⟩⟩
  · have hd : decide ((60 : Int) < (s.size : Int)) = true := by simp; omega
    have HN := Lib.hid (show isFm s = false by unfold isFm; rw [decide_eq_false h60]; simp)
    unfold ErrAt errV at hE
    go_enter Tryz.func90, Tryz.ntmps90
    go_wp2_with fail
    exact ⟨rfl, Below.refl _ _, .inr ⟨HN.out, rfl⟩⟩

theorem run_assert_err (a : Addr) (w : World) : (Instr.typeAssert (errV a) 20 122 true).run Tryz.prog w = .ok (.tuple #[errV a, .bool true]) w := by kernel_rfl
theorem run_assert_nil (w : World) : (Instr.typeAssert .nilIface 20 122 true).run Tryz.prog w = .ok (.tuple #[.nilIface, .bool false]) w := by kernel_rfl
set_option maxRecDepth 100000 in
set_option maxHeartbeats 4000000 in
theorem catch_panicking (p : Addr) (x : Int) (a : Addr) (older : List PanicEntry) (w : World) (hc : w.cell? p = some (.int .i64 x)) (hz : w.frozen? p = false) :
    CallsD Tryz.prog 126 #[.pointer (some p)] (.panicking ({ v := errV a, recovered := false } :: older)) w fun e u' w' =>
      e = .returned (.tuple #[]) ∧ u' = .panicking ({ v := errV a, recovered := true } :: older) ∧ w' = w.setCell p (.int .i64 6) := by
  have h1 := run_assert_err a
  unfold errV at h1 ⊢
  refine callsD_of_wpS Tryz.func126 rfl fun c₀ cs hu => ?_
  apply wpS_seq
  apply wpS_region
  simp [wpOpsS, go_sem, recoverD, hu, Tryz.ntmps126, Exit.thenS, h1, Array.replicate]
  apply wpS_seq
  apply wpS_region
  simp [wpOpsS, go_sem, Exit.thenS]
  refine wpS_cond (t := true) (by simp [Act.eval]) ?_
  simp only [if_true]
  apply wpS_region
  simp [wpOpsS, go_sem, hc, hz, bodyPostS, results, Tryz.results126]
set_option maxRecDepth 100000 in
set_option maxHeartbeats 4000000 in
theorem catch_idle (p : Addr) (w : World) :
    CallsD Tryz.prog 126 #[.pointer (some p)] .returning w fun e u' w' => e = .returned (.tuple #[]) ∧ u' = .returning ∧ w' = w := by
  have h1 := run_assert_nil
  refine callsD_of_wpS Tryz.func126 rfl fun c₀ cs hu => ?_
  apply wpS_seq
  apply wpS_region
  simp [wpOpsS, go_sem, recoverD, hu, Tryz.ntmps126, Exit.thenS, h1, Array.replicate]
  apply wpS_seq
  apply wpS_region
  simp [wpOpsS, go_sem, Exit.thenS]
  refine wpS_cond (t := false) (by simp [Act.eval]) ?_
  simp only [Bool.false_eq_true, if_false]
  refine wpS_of_wp (wp_skip ?_)
  cases c₀
  simp_all [bodyPostS, results, Tryz.results126]
theorem cell_kept {w w2 : World} {r : Nat} (hr : r < w.heap.size) (hg : (w.alloc (.cells #[.int .i64 0] 2)).grownBy w2 (some r)) : w2.cell? ⟨w.heap.size, 0, none⟩ = some (.int .i64 0) ∧ w2.frozen? ⟨w.heap.size, 0, none⟩ = false := by
  have hb := hg.block w.heap.size (by simp) (by intro e; cases e; omega)
  constructor
  · rw [World.cell?_of_block (w := w.alloc (.cells #[.int .i64 0] 2)) (a := ⟨w.heap.size, 0, none⟩) hb]; simp [go_sem]
  · rw [World.frozen?_of_block (w := w.alloc (.cells #[.int .i64 0] 2)) (a := ⟨w.heap.size, 0, none⟩) hb]; simp [go_sem]
set_option maxRecDepth 100000 in
set_option maxHeartbeats 4000000 in
theorem syntaxCode_ok {F : FuncId} {caps : Array Value} (hF : ∀ args w, (callFunc F args).run Tryz.prog w = .ok (.enter F args) w) (w : World) {r : Nat} (hr : r < w.heap.size) {Q : World → Prop}
    (R : Calls Tryz.prog F caps (w.alloc (.cells #[.int .i64 0] 2)) fun e w2 => e = .returned (.tuple #[]) ∧ (w.alloc (.cells #[.int .i64 0] 2)).grownBy w2 (some r) ∧ Q w2) :
    Calls Tryz.prog 88 #[.func (.func F) #[] caps] w fun e w' => e = .returned (.int .i64 0) ∧ ∃ w2, (w.alloc (.cells #[.int .i64 0] 2)).grownBy w2 (some r) ∧ Q w2 ∧ w' = w2.setCell ⟨w.heap.size, 0, none⟩ (.int .i64 0) := by
  have hmf : ∀ (fn : Fn) (first cap : Array Value) (w : World), (Instr.makeFunc fn first cap).run Tryz.prog w = .ok (.func fn first cap) w := fun _ _ _ _ => rfl
  have RR := Lib.hid R
  clear R
  go_enter_defers Tryz.func88, Tryz.ntmps88
  go_wp2_with (refine (RR.out).mono ?_; rintro e w2 ⟨rfl, hg, hq⟩; obtain ⟨cx, fx⟩ := cell_kept hr hg; have HG := Lib.hid hg; clear hg)
  refine leaves_cons (f := 126) (args := #[.pointer (some ⟨w.heap.size, 0, none⟩)]) (by simp) (by simp [go_sem]) ?_
  refine (catch_idle ⟨w.heap.size, 0, none⟩ _).mono ?_
  rintro e u' w'' ⟨rfl, rfl, rfl⟩
  simp [Leaves, settle, results, Tryz.results88, go_sem, cx]
  exact ⟨w2, HG.out, hq, rfl⟩
set_option maxRecDepth 100000 in
set_option maxHeartbeats 4000000 in
theorem syntaxCode_no {F : FuncId} {caps : Array Value} (hF : ∀ args w, (callFunc F args).run Tryz.prog w = .ok (.enter F args) w) (a : Addr) (w : World) {r : Nat} (hr : r < w.heap.size) {Q : World → Prop}
    (R : Calls Tryz.prog F caps (w.alloc (.cells #[.int .i64 0] 2)) fun e w2 => e = .panicked (chainOf a) ∧ (w.alloc (.cells #[.int .i64 0] 2)).grownBy w2 (some r) ∧ Q w2) :
    Calls Tryz.prog 88 #[.func (.func F) #[] caps] w fun e w' => e = .returned (.int .i64 6) ∧ ∃ w2, (w.alloc (.cells #[.int .i64 0] 2)).grownBy w2 (some r) ∧ Q w2 ∧ w' = w2.setCell ⟨w.heap.size, 0, none⟩ (.int .i64 6) := by
  have hmf : ∀ (fn : Fn) (first cap : Array Value) (w : World), (Instr.makeFunc fn first cap).run Tryz.prog w = .ok (.func fn first cap) w := fun _ _ _ _ => rfl
  have RR := Lib.hid R
  clear R
  go_enter_defers Tryz.func88, Tryz.ntmps88
  go_wp2_with (refine (RR.out).mono ?_; rintro e w2 ⟨rfl, hg, hq⟩; obtain ⟨cx, fx⟩ := cell_kept hr hg; have HG := Lib.hid hg; clear hg)
  refine leaves_cons (f := 126) (args := #[.pointer (some ⟨w.heap.size, 0, none⟩)]) (by simp) (by simp [go_sem]) ?_
  refine (catch_panicking ⟨w.heap.size, 0, none⟩ 0 a [] _ cx fx).mono ?_
  rintro e u' w'' ⟨rfl, rfl, rfl⟩
  simp [Leaves, settle, results, Tryz.results88, go_sem, cx]
  exact ⟨w2, HG.out, hq, rfl⟩
end Go.Proofs.YtleighihfgabkaaGreatDoor

/- PF6:
  Formulas read in by readFormula; IsFormula. -/
namespace Go.Proofs.YtleighihfgabkaaGreatDoor
open Go.RowKit
set_option linter.unusedVariables false
set_option linter.unusedSimpArgs false
theorem gOfB {W W' : World} (hb : Below W.heap.size W W') (b : Nat) : W.grownBy W' (some b) := ⟨hb.os, hb.tape, hb.output, hb.size, fun k hk _ => hb.block k hk⟩
theorem gsetB {w w' : World} {b : Nat} (h : w.grownBy w' (some b)) (i : Nat) (v : Value) : w.grownBy (w'.setCell ⟨b, i, none⟩ v) (some b) :=
  ⟨h.os, h.tape, h.output, by simpa using h.size, fun k hk hr => (Below.heap_setCell _ _ _ k (by intro e; exact hr (by rw [e]))).trans (h.block k hk hr)⟩
theorem IsNode.set {W : World} {f : Fm} {lo b R j : Nat} {v : Value} (h : IsNode W f lo b) (hR : R < lo) : IsNode (W.setCell ⟨R, j, none⟩ v) f lo b := by
  obtain ⟨hi, h0, h1, h2⟩ := h
  exact ⟨hi, h0, by simpa using h1, Nd.frame _ _ _ _ _ (fun g g1 _ => Below.heap_setCell _ _ _ g (by intro e; simp at e; omega)) h2⟩
/-- The reader's closure, where the text is a formula. -/
def GotF (s : ByteArray) (w : World) (R : Nat) (w2 : World) : Prop := ∃ f b, f.wf ∧ s = f.bytes ∧ w2.cell? ⟨R, 0, none⟩ = some (.pointer (some ⟨b, 0, none⟩)) ∧ w2.frozen? ⟨R, 0, none⟩ = false ∧ IsNode w2 f w.heap.size b
set_option maxRecDepth 100000 in
set_option maxHeartbeats 4000000 in
theorem readF1_ok {s : ByteArray} (hf : isFm s = true) {a : Addr} {T R : Nat} {v0 : Value} (w : World) (hE : ErrAt w a) (cT : w.cell? ⟨T, 0, none⟩ = some (.string s)) (cR : w.cell? ⟨R, 0, none⟩ = some v0) (fR : w.frozen? ⟨R, 0, none⟩ = false) :
    Calls Tryz.prog 89 #[.pointer (some ⟨T, 0, none⟩), .pointer (some ⟨R, 0, none⟩)] w fun e w2 => e = .returned (.tuple #[]) ∧ w.grownBy w2 (some R) ∧ GotF s w R w2 := by
  have WF := Lib.hid (wholeFormula_any a s w hE)
  have HR := Lib.hid cR
  have hR : R < w.heap.size := cell_lt cR
  go_enter Tryz.func89, Tryz.ntmps89
  go_wp2_with (go_at_call 90; refine (WF.out).mono ?_; rintro e w3 ⟨hb3, ⟨_, f, b, hwf, hsf, rfl, hN⟩ | ⟨hx, _⟩⟩; rotate_left 1; (exact absurd (hf.symm.trans hx) (by decide)); have cR3 := kc hb3 cR; have fR3 := kf hb3 cR fR; have HS := Lib.hid hsf; clear hsf)
  go_end0
  exact ⟨rfl, gsetB (gOfB hb3 R) 0 _, f, b, hwf, HS.out, by simp [go_sem, cR3], by rw [World.frozen?_setCell]; exact fR3, hN.set hR⟩
set_option maxRecDepth 100000 in
set_option maxHeartbeats 4000000 in
theorem readF1_no {s : ByteArray} (hf : isFm s = false) {a : Addr} {T R : Nat} {v0 : Value} (w : World) (hE : ErrAt w a) (cT : w.cell? ⟨T, 0, none⟩ = some (.string s)) (cR : w.cell? ⟨R, 0, none⟩ = some v0) (fR : w.frozen? ⟨R, 0, none⟩ = false) :
    Calls Tryz.prog 89 #[.pointer (some ⟨T, 0, none⟩), .pointer (some ⟨R, 0, none⟩)] w fun e w2 => e = .panicked (chainOf a) ∧ w.grownBy w2 (some R) ∧ (w2.cell? ⟨R, 0, none⟩ = some v0 ∧ w2.frozen? ⟨R, 0, none⟩ = false) := by
  have WF := Lib.hid (wholeFormula_any a s w hE)
  go_enter Tryz.func89, Tryz.ntmps89
  go_wp2_with (go_at_call 90; refine (WF.out).mono ?_; rintro e w3 ⟨hb3, ⟨hx, _⟩ | ⟨_, rfl⟩⟩; (exact absurd (hf.symm.trans hx) (by decide)))
  exact ⟨rfl, rfl, gOfB hb3 R, kc hb3 cR, kf hb3 cR fR⟩
theorem bGrownR {w W W' : World} {R : Nat} (h : Below w.heap.size w W) (hR : w.heap.size ≤ R) (g : W.grownBy W' (some R)) : Below w.heap.size w W' :=
  ⟨g.os.trans h.os, g.tape.trans h.tape, g.output.trans h.output, Nat.le_trans h.size g.size, fun k hk => (g.block k (Nat.lt_of_lt_of_le hk h.size) (by intro e; cases e; omega)).trans (h.block k hk)⟩
theorem callF1 : ∀ args w, (callFunc 89 args).run Tryz.prog w = .ok (.enter 89 args) w := fun args w => by kernel_rfl
set_option maxRecDepth 100000 in
set_option maxHeartbeats 4000000 in
theorem readFormula_yes {s : ByteArray} (hf : isFm s = true) {a : Addr} (w : World) (hE : ErrAt w a) :
    Calls Tryz.prog 45 #[.string s] w fun e w' => Below w.heap.size w w' ∧ ∃ f b, f.wf ∧ s = f.bytes ∧ e = .returned (.tuple #[.pointer (some ⟨b, 0, none⟩), .int .i64 0]) ∧ IsNode w' f 0 b := by
  have hmf : ∀ (fn : Fn) (first cap : Array Value) (w : World), (Instr.makeFunc fn first cap).run Tryz.prog w = .ok (.func fn first cap) w := fun _ _ _ _ => rfl
  obtain ⟨W2, hW2⟩ : ∃ W2, (w.alloc (.cells #[.string s] 9)).alloc (.cells #[.pointer none] 64) = W2 := ⟨_, rfl⟩
  have hs2 : W2.heap.size = w.heap.size + 2 := by rw [← hW2]; simp
  have hb2 : Below w.heap.size w W2 := by rw [← hW2]; exact balloc (bnew _ _) _
  have c0 : W2.cell? ⟨w.heap.size, 0, none⟩ = some (.string s) := by rw [← hW2]; simp [go_sem]
  have c1 : W2.cell? ⟨w.heap.size + 1, 0, none⟩ = some (.pointer none) := by rw [← hW2]; simp [go_sem]
  have f1 : W2.frozen? ⟨w.heap.size + 1, 0, none⟩ = false := by rw [← hW2]; simp [go_sem]
  have hb3 := bnew W2 (.cells #[.int .i64 0] 2)
  have R := readF1_ok hf (W2.alloc (.cells #[.int .i64 0] 2)) (hE.below (bthen hb2 hb3)) (kc hb3 c0) (kc hb3 c1) (kf hb3 c1 f1)
  have SC := Lib.hid (syntaxCode_ok callF1 W2 (by omega) R)
  have HS2 := Lib.hid hs2
  clear R hb3 hs2
  go_enter Tryz.func45, Tryz.ntmps45
  go_wp2_with (go_at_call 88; refine (SC.out).mono ?_; rintro e w4 ⟨rfl, w3, hg3, ⟨f, b, hwf, hsf, cR, fR, hN⟩, rfl⟩; have HG := Lib.hid hg3; have HS := Lib.hid hsf; have hne : ¬ W2.heap.size = w.heap.size + 1 := (by have := HS2.out; omega); clear hg3 hsf)
  refine bodyPost_ret (v := .tuple #[.pointer (some ⟨b, 0, none⟩), .int .i64 0]) (by simp [results, Tryz.results45, go_sem, cR, hne]) rfl ?_
  have hs := HS2.out
  have B1 : Below w.heap.size w w3 := bGrownR (balloc hb2 _) (by omega) HG.out
  refine ⟨(B1.setCell (p := ⟨W2.heap.size, 0, none⟩) (by show w.heap.size ≤ W2.heap.size; omega) _).setCell (p := ⟨w.heap.size + 1, 0, none⟩) (by show w.heap.size ≤ w.heap.size + 1; omega) _, f, b, hwf, HS.out, rfl, ?_⟩
  exact ((hN.set (by simp)).set (by simp; omega)).any
set_option maxRecDepth 100000 in
set_option maxHeartbeats 4000000 in
theorem readFormula_no {s : ByteArray} (hf : isFm s = false) {a : Addr} (w : World) (hE : ErrAt w a) :
    Calls Tryz.prog 45 #[.string s] w fun e w' => e = .returned (.tuple #[.pointer none, .int .i64 6]) ∧ Below w.heap.size w w' := by
  have hmf : ∀ (fn : Fn) (first cap : Array Value) (w : World), (Instr.makeFunc fn first cap).run Tryz.prog w = .ok (.func fn first cap) w := fun _ _ _ _ => rfl
  obtain ⟨W2, hW2⟩ : ∃ W2, (w.alloc (.cells #[.string s] 9)).alloc (.cells #[.pointer none] 64) = W2 := ⟨_, rfl⟩
  have hs2 : W2.heap.size = w.heap.size + 2 := by rw [← hW2]; simp
  have hb2 : Below w.heap.size w W2 := by rw [← hW2]; exact balloc (bnew _ _) _
  have c0 : W2.cell? ⟨w.heap.size, 0, none⟩ = some (.string s) := by rw [← hW2]; simp [go_sem]
  have c1 : W2.cell? ⟨w.heap.size + 1, 0, none⟩ = some (.pointer none) := by rw [← hW2]; simp [go_sem]
  have f1 : W2.frozen? ⟨w.heap.size + 1, 0, none⟩ = false := by rw [← hW2]; simp [go_sem]
  have hb3 := bnew W2 (.cells #[.int .i64 0] 2)
  have R := readF1_no hf (W2.alloc (.cells #[.int .i64 0] 2)) (hE.below (bthen hb2 hb3)) (kc hb3 c0) (kc hb3 c1) (kf hb3 c1 f1)
  have SC := Lib.hid (syntaxCode_no callF1 a W2 (by omega) R)
  have HS2 := Lib.hid hs2
  clear R hb3 hs2
  go_enter Tryz.func45, Tryz.ntmps45
  go_wp2_with (go_at_call 88; refine (SC.out).mono ?_; rintro e w4 ⟨rfl, w3, hg3, ⟨cR, fR⟩, rfl⟩; have HG := Lib.hid hg3; have hne : ¬ W2.heap.size = w.heap.size + 1 := (by have := HS2.out; omega); clear hg3)
  refine bodyPost_ret (v := .tuple #[.pointer none, .int .i64 6]) (by simp [results, Tryz.results45, go_sem, cR, hne]) rfl ?_
  have hs := HS2.out
  have B1 : Below w.heap.size w w3 := bGrownR (balloc hb2 _) (by omega) HG.out
  exact ⟨rfl, (B1.setCell (p := ⟨W2.heap.size, 0, none⟩) (by show w.heap.size ≤ W2.heap.size; omega) _).setCell (p := ⟨w.heap.size + 1, 0, none⟩) (by show w.heap.size ≤ w.heap.size + 1; omega) _⟩
set_option maxRecDepth 100000 in
set_option maxHeartbeats 4000000 in
theorem implIsFormula_any (s : ByteArray) {a : Addr} (w : World) (hE : ErrAt w a) :
    Calls Tryz.prog 9 #[.string s] w fun e w' => e = .returned (.bool (isFm s)) ∧ Below w.heap.size w w' := by
  cases hf : isFm s
  · have R := Lib.hid (readFormula_no hf w hE)
    clear hf
    go_enter Tryz.func9, Tryz.ntmps9
    go_wp2_with (go_at_call 45; refine (R.out).mono ?_; rintro e w2 ⟨rfl, hb⟩)
    go_ret
    exact ⟨rfl, hb⟩
  · have R := Lib.hid (readFormula_yes hf w hE)
    clear hf
    go_enter Tryz.func9, Tryz.ntmps9
    go_wp2_with (go_at_call 45; refine (R.out).mono ?_; rintro e w2 ⟨hb, f, b, hwf, hsf, rfl, hN⟩; have HS := Lib.hid hsf; clear hsf)
    go_ret
    exact ⟨rfl, hb⟩
end Go.Proofs.YtleighihfgabkaaGreatDoor

/- BW:
  strings.Builder at this program: copyCheck, WriteByte, WriteString (after the shelf's walks; copyCheck's own body parts from the shelf's in a branch that no run takes). -/
namespace Go.Proofs.YtleighihfgabkaaGreatDoor
open Go.RowKit
set_option linter.unusedVariables false
set_option linter.unusedSimpArgs false
theorem sizeBuilder : (Tryz.prog.info? 119).map (·.size) = some 2 := by kernel_rfl
theorem liesBuilder : liesAt Tryz.prog Tryz.prog.depth 119 (2 / Tryz.prog.cellsOf 119) 0 119 1 = true := by kernel_rfl
theorem infoByteB : (Tryz.prog.info? 5).map (fun i => (i.zero, i.size, i.bytes)) = some (some (.int .u8 0), 1, 1) := by kernel_rfl
set_option maxHeartbeats 1000000 in
set_option maxRecDepth 100000 in
theorem copyCheck_used (b : Nat) (w : World) (h0 : w.cell? ⟨b, 0, none⟩ = some (.pointer (some ⟨b, 0, none⟩))) :
    Calls Tryz.prog 135 #[.pointer (some ⟨b, 0, none⟩)] w fun e w' => e = .returned (.tuple #[]) ∧ w' = w := by
  obtain ⟨j, hj, _⟩ := Option.map_eq_some_iff.1 sizeBuilder
  go_enter Tryz.func135, Tryz.ntmps135
  go_wp2
  rw [Lib.run_neq_ptr_same w _ Tryz.underlying117 hj]
  go_wp2
  go_end0
  exact ⟨rfl, rfl⟩
set_option maxHeartbeats 1000000 in
set_option maxRecDepth 100000 in
theorem copyCheck_fresh (b : Nat) (w : World) (h0 : w.cell? ⟨b, 0, none⟩ = some (.pointer none)) (hsh : w.shape? b = some (119, 2)) (hfz : w.frozen? ⟨b, 0, none⟩ = false) :
    Calls Tryz.prog 135 #[.pointer (some ⟨b, 0, none⟩)] w fun e w' => e = .returned (.tuple #[]) ∧ w' = w.setCell ⟨b, 0, none⟩ (.pointer (some ⟨b, 0, none⟩)) := by
  obtain ⟨j, hj, hjs⟩ := Option.map_eq_some_iff.1 sizeBuilder
  go_enter Tryz.func135, Tryz.ntmps135
  go_wp2
  rw [Lib.run_to_unsafe w ⟨b, 0, none⟩ Tryz.underlying117 Tryz.underlying168 hj (by rw [hjs]; decide) hsh (Nat.zero_lt_succ 1)]
  simp only [Result.andThen]
  rw [Oper.upon_value]
  go_wp2
  rw [run_callFunc_extern Tryz.func143 (by kernel_rfl) (by kernel_rfl) (by kernel_rfl) (e := Extern.AbiNoEscape.same) (by kernel_rfl)]
  rw [Lib.run_noEscape]
  simp only [Result.andThen]
  rw [Oper.upon_value]
  go_wp2
  rw [Lib.run_from_unsafe w ⟨b, 0, none⟩ Tryz.underlying168 Tryz.underlying117 hj hsh liesBuilder]
  simp only [Result.andThen]
  rw [Oper.upon_value]
  go_wp2
  go_end0
  exact ⟨rfl, rfl⟩
theorem copyCheck_any (B b : Nat) (bs : List Value) (w : World) (h : Lib.IsBuilder 119 5 B b bs w) :
    Calls Tryz.prog 135 #[.pointer (some ⟨b, 0, none⟩)] w fun e w' => e = .returned (.tuple #[]) ∧ (Lib.BuilderAt 119 5 B b (.pointer (some ⟨b, 0, none⟩)) bs w' ∧ Below B w w') := by
  rcases h with h | h
  · refine (copyCheck_fresh b w h.cell0 h.shape h.frozen0).mono ?_
    rintro e w' ⟨rfl, rfl⟩
    exact ⟨rfl, h.used _, (Below.refl B w).setCell (p := ⟨b, 0, none⟩) h.1 _⟩
  · refine (copyCheck_used b w h.cell0).mono ?_
    rintro e w' ⟨rfl, rfl⟩
    exact ⟨rfl, h, Below.refl B _⟩
set_option maxHeartbeats 4000000 in
set_option maxRecDepth 100000 in
theorem WriteByte_any (B b : Nat) (bs : List Value) (c : Int) (w : World) (h : Lib.IsBuilder 119 5 B b bs w) (hlen : bs.length + 1 ≤ 140737488355328) (hBw : B ≤ w.heap.size) :
    Calls Tryz.prog 104 #[.pointer (some ⟨b, 0, none⟩), .int .u8 c] w fun e w' => e = .returned .nilIface ∧ (Lib.BuilderAt 119 5 B b (.pointer (some ⟨b, 0, none⟩)) (bs ++ [.int .u8 c]) w' ∧ Below B w w') := by
  obtain ⟨i0, hi, hz0, hz1, hz2⟩ := info_parts infoByteB
  go_enter Tryz.func104, Tryz.ntmps104
  go_wp2_with (go_at_call 135; refine (copyCheck_any B b bs _ h).mono ?_)
  rintro e w1 ⟨rfl, h1, hb1⟩
  obtain ⟨hB, v, hbk, hown, hne⟩ := h1
  have c0 : w1.cell? ⟨b, 0, none⟩ = some (.pointer (some ⟨b, 0, none⟩)) := by rw [Lib.cell_of_heap hbk]; rfl
  have c1 : w1.cell? ⟨b, 1, none⟩ = some v := by rw [Lib.cell_of_heap hbk]; rfl
  go_wp2_with (at_builtin; refine wpList_append_own _ rfl _ _ 22 rfl B 5 i0 (.int .u8 0) 1 1 Tryz.underlying22 hi hz0 hz1 hz2 rfl (by decide) _ _ _ rfl (hown.alloc _) ⟨w1.heap.size, 0, none⟩ 1 1 [.int .u8 c] rfl rfl ?c1 ?c2 ?c3 ?c4 ?c5 ?_)
  case c1 =>
    intro j u hj
    match j, hj with
    | 0, hj => simp at hj; subst hj; simp [Addr.add]
  case c2 => intro u hu; simp at hu; subst hu; rfl
  case c3 => unfold maxLen; omega
  case c4 => omega
  case c5 => have := hb1.size; simp; omega
  intro v' w2 hown' hgrow _
  have hlt : b < w1.heap.size := by
    rcases Nat.lt_or_ge b w1.heap.size with h' | h'
    · exact h'
    · simp [Array.getElem?_eq_none h'] at hbk
  have hb2 : w2.heap[b]? = some (.cells #[.pointer (some ⟨b, 0, none⟩), v] 119 (0, 0)) := by
    rw [hgrow.block b (by simp; omega) (fun e => hne e.symm), Lib.alloc_old w1 _ b hlt]
    exact hbk
  have d0 : w2.cell? ⟨b, 0, none⟩ = some (.pointer (some ⟨b, 0, none⟩)) := by rw [Lib.cell_of_heap hb2]; rfl
  have d1 : w2.cell? ⟨b, 1, none⟩ = some v := by rw [Lib.cell_of_heap hb2]; rfl
  have f1 : w2.frozen? ⟨b, 1, none⟩ = false := Lib.frozen_of_heap hb2 1
  obtain ⟨g, cap, rfl⟩ : ∃ g cap, v' = .slice (some ⟨g, 0, none⟩) (bs.length + 1) cap := by
    rcases hown'.2 with ⟨_, h0⟩ | ⟨g, cap, cur, hv, _⟩
    · omega
    · exact ⟨g, cap, hv⟩
  go_wp2
  go_ret
  refine ⟨rfl, ?_, ?_⟩
  · exact Lib.BuilderAt.put (T := 119) (e := 5) hB hb2 (bs' := bs ++ [.int .u8 c]) (by simpa using hown') (by decide)
  · exact ((hb1.alloc (by have := hb1.size; omega) _).grown hgrow (by have := hb1.size; simp; omega) (fun k hk => (hown.lt k hk).1)).setCell (p := ⟨b, 1, none⟩) hB _
set_option maxHeartbeats 4000000 in
set_option maxRecDepth 100000 in
theorem WriteString_any (B b : Nat) (bs : List Value) (s : ByteArray) (w : World) (h : Lib.IsBuilder 119 5 B b bs w) (hlen : bs.length + s.size ≤ 140737488355328) (hBw : B ≤ w.heap.size) :
    Calls Tryz.prog 103 #[.pointer (some ⟨b, 0, none⟩), .string s] w fun e w' => e = .returned (.tuple #[.int .i64 s.size, .nilIface]) ∧ (Lib.BuilderAt 119 5 B b (.pointer (some ⟨b, 0, none⟩)) (bs ++ Lib.strCells s) w' ∧ Below B w w') := by
  obtain ⟨i0, hi, hz0, hz1, hz2⟩ := info_parts infoByteB
  go_enter Tryz.func103, Tryz.ntmps103
  go_wp2_with (go_at_call 135; refine (copyCheck_any B b bs _ h).mono ?_)
  rintro e w1 ⟨rfl, h1, hb1⟩
  obtain ⟨hB, v, hbk, hown, hne⟩ := h1
  have c0 : w1.cell? ⟨b, 0, none⟩ = some (.pointer (some ⟨b, 0, none⟩)) := by rw [Lib.cell_of_heap hbk]; rfl
  have c1 : w1.cell? ⟨b, 1, none⟩ = some v := by rw [Lib.cell_of_heap hbk]; rfl
  go_wp2_with (at_builtin; refine Lib.wpList_append_own_string _ rfl _ _ 22 9 rfl B 5 i0 Tryz.underlying22 Tryz.underlying9 hi hz0 hz1 hz2 _ _ _ rfl hown s rfl ?c3 ?c4 ?c5 ?_)
  case c3 => unfold maxLen; omega
  case c4 => omega
  case c5 => have := hb1.size; omega
  intro v' w2 hown' hgrow _
  have hlt : b < w1.heap.size := by
    rcases Nat.lt_or_ge b w1.heap.size with h' | h'
    · exact h'
    · simp [Array.getElem?_eq_none h'] at hbk
  have hb2 : w2.heap[b]? = some (.cells #[.pointer (some ⟨b, 0, none⟩), v] 119 (0, 0)) := by
    rw [hgrow.block b hlt (fun e => hne e.symm)]
    exact hbk
  have d0 : w2.cell? ⟨b, 0, none⟩ = some (.pointer (some ⟨b, 0, none⟩)) := by rw [Lib.cell_of_heap hb2]; rfl
  have d1 : w2.cell? ⟨b, 1, none⟩ = some v := by rw [Lib.cell_of_heap hb2]; rfl
  have f1 : w2.frozen? ⟨b, 1, none⟩ = false := Lib.frozen_of_heap hb2 1
  obtain ⟨ao, n', cap, rfl⟩ : ∃ ao n' cap, v' = .slice ao n' cap := by
    rcases hown'.2 with ⟨hv, _⟩ | ⟨g, cap, cur, hv, _⟩
    · exact ⟨_, _, _, hv⟩
    · exact ⟨_, _, _, hv⟩
  go_wp2
  go_ret2
  refine ⟨rfl, ?_, ?_⟩
  · exact Lib.BuilderAt.put (T := 119) (e := 5) hB hb2 (bs' := bs ++ Lib.strCells s) (by simpa [Lib.strCells_length] using hown') (by decide)
  · exact (hb1.grown hgrow (by have := hb1.size; omega) (fun k hk => (hown.lt k hk).1)).setCell (p := ⟨b, 1, none⟩) hB _
end Go.Proofs.YtleighihfgabkaaGreatDoor

/- SH:
  Contracts of library functions at this program, laid by the guide's command in plain declarations. -/
namespace Go.Proofs
open Go.Shelf
def Tryz.lays169_ren : Go.Shelf.Ren := ⟨fun | 169 => 105 | n => n, fun | 70 => 117 | 9 => 9 | 0 => 0 | 72 => 119 | 37 => 22 | 127 => 156 | 3 => 3 | 5 => 5 | n => n, fun | n => n⟩
theorem Tryz.lays169 : Go.Proofs.Lays.n169 Tryz.prog Tryz.lays169_ren := {
  mixed := by kernel_rfl
  f169 := Tryz.func105.trans (congrArg some (by kernel_rfl))
  t0 := Tryz.underlying0
  a0 := Tryz.isAgg0
  z0 := Tryz.sizeOf0
  v0 := Tryz.zeroValue0
  t3 := Tryz.underlying3
  a3 := Tryz.isAgg3
  z3 := Tryz.sizeOf3
  v3 := Tryz.zeroValue3
  t9 := Tryz.underlying9
  a9 := Tryz.isAgg9
  z9 := Tryz.sizeOf9
  v9 := Tryz.zeroValue9
  t37 := Tryz.underlying22
  a37 := Tryz.isAgg22
  z37 := Tryz.sizeOf22
  v37 := Tryz.zeroValue22
  t70 := Tryz.underlying117
  a70 := Tryz.isAgg117
  z70 := Tryz.sizeOf117
  v70 := Tryz.zeroValue117
  t72 := Tryz.underlying119
  a72 := Tryz.isAgg119
  z72 := Tryz.sizeOf119
  v72 := Tryz.zeroValue119
  t127 := Tryz.underlying156
  a127 := Tryz.isAgg156
  z127 := Tryz.sizeOf156
  v127 := Tryz.zeroValue156 }
theorem Tryz.Builder_Extra_169 : Builder.Extra Tryz.prog Tryz.lays169_ren := {
  sizeBuilder := by kernel_rfl
  liesBuilder := by kernel_rfl
  t5 := Tryz.underlying5
  a5 := Tryz.isAgg5
  z5 := Tryz.sizeOf5
  v5 := Tryz.zeroValue5
  infoByte := by kernel_rfl
  cellsByte := by kernel_rfl
  sizeByte := by kernel_rfl
  neB5 := by decide }
open Go.RowKit in
theorem Tryz.Builder_String (B b : Nat) (l : List UInt8) (w : World) (h : Lib.IsBuilder 119 5 B b (Lib.byteCells l) w) (h0 : l ≠ []) :
    Calls Tryz.prog 105 #[.pointer (some ⟨b, 0, none⟩)] w fun e w' => e = .returned (.string ⟨l.toArray⟩) ∧ Below B w w' := Any.Builder_String Tryz.lays169 Tryz.Builder_Extra_169 B b l w h h0
open Go.RowKit in
theorem Tryz.Builder_String_empty (B b : Nat) (w : World) (h : Lib.IsBuilder 119 5 B b [] w) (hBw : B ≤ w.heap.size) :
    Calls Tryz.prog 105 #[.pointer (some ⟨b, 0, none⟩)] w fun e w' => e = .returned (.string ⟨#[]⟩) ∧ Below B w w' := Any.Builder_String_empty Tryz.lays169 Tryz.Builder_Extra_169 B b w h hBw
open Go.RowKit in
theorem Tryz.Builder_String_any (B b : Nat) (l : List UInt8) (w : World) (h : Lib.IsBuilder 119 5 B b (Lib.byteCells l) w) (hBw : B ≤ w.heap.size) :
    Calls Tryz.prog 105 #[.pointer (some ⟨b, 0, none⟩)] w fun e w' => e = .returned (.string ⟨l.toArray⟩) ∧ Below B w w' := Any.Builder_String_any Tryz.lays169 Tryz.Builder_Extra_169 B b l w h hBw
def Tryz.lays119_ren : Go.Shelf.Ren := ⟨fun | 119 => 139 | n => n, fun | 21 => 21 | 4 => 4 | n => n, fun | n => n⟩
theorem Tryz.lays119 : Go.Proofs.Lays.n119 Tryz.prog Tryz.lays119_ren := {
  mixed := by kernel_rfl
  f119 := Tryz.func139.trans (congrArg some (by kernel_rfl))
  t4 := Tryz.underlying4
  a4 := Tryz.isAgg4
  z4 := Tryz.sizeOf4
  v4 := Tryz.zeroValue4
  t21 := Tryz.underlying21
  a21 := Tryz.isAgg21
  z21 := Tryz.sizeOf21
  v21 := Tryz.zeroValue21 }
theorem Tryz.utf8_ValidRune (r : Int) (w : World) :
    Calls Tryz.prog 139 #[.int .i32 r] w fun e w' => e = .returned (.bool (Lib.validRune r)) ∧ w' = w := Any.utf8_ValidRune Tryz.lays119 r w
def Tryz.lays137_ren : Go.Shelf.Ren := ⟨fun | 137 => 102 | 217 => 134 | 266 => 142 | n => n, fun | 9 => 9 | 5 => 5 | 3 => 3 | n => n, fun | n => n⟩
theorem Tryz.lays137 : Go.Proofs.Lays.n137 Tryz.prog Tryz.lays137_ren := {
  mixed := by kernel_rfl
  f137 := Tryz.func102.trans (congrArg some (by kernel_rfl))
  f217 := Tryz.func134.trans (congrArg some (by kernel_rfl))
  f266 := Tryz.func142.trans (congrArg some (by kernel_rfl))
  t3 := Tryz.underlying3
  a3 := Tryz.isAgg3
  z3 := Tryz.sizeOf3
  v3 := Tryz.zeroValue3
  t5 := Tryz.underlying5
  a5 := Tryz.isAgg5
  z5 := Tryz.sizeOf5
  v5 := Tryz.zeroValue5
  t9 := Tryz.underlying9
  a9 := Tryz.isAgg9
  z9 := Tryz.sizeOf9
  v9 := Tryz.zeroValue9 }
open Go.RowKit in
theorem Tryz.strings_IndexByte (s : ByteArray) (c : Int) (w : World) :
    Calls Tryz.prog 102 #[.string s, .int .u8 c] w fun e w' => e = .returned (.int .i64 (Lib.indexByte s.data.toList c.toNat.toUInt8)) ∧ w' = w := Any.strings_IndexByte Tryz.lays137 s c w
def Tryz.lays217_ren : Go.Shelf.Ren := ⟨fun | 217 => 134 | 266 => 142 | n => n, fun | 9 => 9 | 5 => 5 | 3 => 3 | n => n, fun | n => n⟩
theorem Tryz.lays217 : Go.Proofs.Lays.n217 Tryz.prog Tryz.lays217_ren := {
  mixed := by kernel_rfl
  f217 := Tryz.func134.trans (congrArg some (by kernel_rfl))
  f266 := Tryz.func142.trans (congrArg some (by kernel_rfl))
  t3 := Tryz.underlying3
  a3 := Tryz.isAgg3
  z3 := Tryz.sizeOf3
  v3 := Tryz.zeroValue3
  t5 := Tryz.underlying5
  a5 := Tryz.isAgg5
  z5 := Tryz.sizeOf5
  v5 := Tryz.zeroValue5
  t9 := Tryz.underlying9
  a9 := Tryz.isAgg9
  z9 := Tryz.sizeOf9
  v9 := Tryz.zeroValue9 }
open Go.RowKit Go.Lib in
theorem Tryz.stringslite_IndexByte (s : ByteArray) (c : Int) (w : World) :
    Calls Tryz.prog 134 #[.string s, .int .u8 c] w fun e w' => e = .returned (.int .i64 (Lib.indexByte s.data.toList c.toNat.toUInt8)) ∧ w' = w := Any.stringslite_IndexByte Tryz.lays217 s c w
def Tryz.lays224_ren : Go.Shelf.Ren := ⟨fun | 224 => 140 | n => n, fun | 3 => 3 | n => n, fun | n => n⟩
theorem Tryz.lays224 : Go.Proofs.Lays.n224 Tryz.prog Tryz.lays224_ren := {
  mixed := by kernel_rfl
  f224 := Tryz.func140.trans (congrArg some (by kernel_rfl))
  t3 := Tryz.underlying3
  a3 := Tryz.isAgg3
  z3 := Tryz.sizeOf3
  v3 := Tryz.zeroValue3 }
open Go.RowKit Go.Lib in
theorem Tryz.bytealg_Cutover (n : Int) (h0 : 0 ≤ n) (h1 : n < 4611686018427387904) (w : World) :
    Calls Tryz.prog 140 #[.int .i64 n] w fun e w' => e = .returned (.int .i64 ((n + 16) / 8)) ∧ w' = w := Any.bytealg_Cutover Tryz.lays224 n h0 h1 w
def Tryz.lays152_ren : Go.Shelf.Ren := ⟨fun | 152 => 128 | 137 => 102 | 119 => 139 | 224 => 140 | 225 => 141 | 217 => 134 | 266 => 142 | n => n, fun | 9 => 9 | 21 => 21 | 3 => 3 | 4 => 4 | 5 => 5 | 0 => 0 | 46 => 116 | n => n, fun | n => n⟩
theorem Tryz.lays152 : Go.Proofs.Lays.n152 Tryz.prog Tryz.lays152_ren := {
  mixed := by kernel_rfl
  f119 := Tryz.func139.trans (congrArg some (by kernel_rfl))
  f137 := Tryz.func102.trans (congrArg some (by kernel_rfl))
  f152 := Tryz.func128.trans (congrArg some (by kernel_rfl))
  f217 := Tryz.func134.trans (congrArg some (by kernel_rfl))
  f224 := Tryz.func140.trans (congrArg some (by kernel_rfl))
  f225 := Tryz.func141.trans (congrArg some (by kernel_rfl))
  f266 := Tryz.func142.trans (congrArg some (by kernel_rfl))
  t0 := Tryz.underlying0
  a0 := Tryz.isAgg0
  z0 := Tryz.sizeOf0
  v0 := Tryz.zeroValue0
  t3 := Tryz.underlying3
  a3 := Tryz.isAgg3
  z3 := Tryz.sizeOf3
  v3 := Tryz.zeroValue3
  t4 := Tryz.underlying4
  a4 := Tryz.isAgg4
  z4 := Tryz.sizeOf4
  v4 := Tryz.zeroValue4
  t5 := Tryz.underlying5
  a5 := Tryz.isAgg5
  z5 := Tryz.sizeOf5
  v5 := Tryz.zeroValue5
  t9 := Tryz.underlying9
  a9 := Tryz.isAgg9
  z9 := Tryz.sizeOf9
  v9 := Tryz.zeroValue9
  t21 := Tryz.underlying21
  a21 := Tryz.isAgg21
  z21 := Tryz.sizeOf21
  v21 := Tryz.zeroValue21
  t46 := Tryz.underlying116
  a46 := Tryz.isAgg116
  z46 := Tryz.sizeOf116
  v46 := Tryz.zeroValue116 }
open Go.RowKit Go.Lib in
theorem Tryz.strings_IndexRune_ascii (s : ByteArray) (r : Int) (w : World) (h0 : 0 ≤ r) (h1 : r < 128) :
    Calls Tryz.prog 128 #[.string s, .int .i32 r] w fun e w' => e = .returned (.int .i64 (Lib.indexByte s.data.toList r.toNat.toUInt8)) ∧ w' = w := Any.strings_IndexRune_ascii Tryz.lays152 s r w h0 h1
def Tryz.lays226_ren : Go.Shelf.Ren := ⟨fun | 226 => 129 | n => n, fun | 3 => 3 | 4 => 4 | n => n, fun | n => n⟩
theorem Tryz.lays226 : Go.Proofs.Lays.n226 Tryz.prog Tryz.lays226_ren := {
  mixed := by kernel_rfl
  f226 := Tryz.func129.trans (congrArg some (by kernel_rfl))
  t3 := Tryz.underlying3
  a3 := Tryz.isAgg3
  z3 := Tryz.sizeOf3
  v3 := Tryz.zeroValue3
  t4 := Tryz.underlying4
  a4 := Tryz.isAgg4
  z4 := Tryz.sizeOf4
  v4 := Tryz.zeroValue4 }
open Go.RowKit Go.Lib in
theorem Tryz.strings_shouldUseASCIISet (n : Int) (w : World) :
    Calls Tryz.prog 129 #[.int .i64 n] w fun e w' => e = .returned (.bool (decide (8 < n))) ∧ w' = w := Any.strings_shouldUseASCIISet Tryz.lays226 n w
def Tryz.lays153_ren : Go.Shelf.Ren := ⟨fun | 153 => 91 | 152 => 128 | 226 => 129 | 227 => 130 | 228 => 131 | 137 => 102 | 119 => 139 | 224 => 140 | 225 => 141 | 217 => 134 | 266 => 142 | n => n, fun | 9 => 9 | 3 => 3 | 4 => 4 | 5 => 5 | 21 => 21 | 117 => 153 | 116 => 152 | 0 => 0 | 46 => 116 | 124 => 167 | n => n, fun | n => n⟩
theorem Tryz.lays153 : Go.Proofs.Lays.n153 Tryz.prog Tryz.lays153_ren := {
  mixed := by kernel_rfl
  f119 := Tryz.func139.trans (congrArg some (by kernel_rfl))
  f137 := Tryz.func102.trans (congrArg some (by kernel_rfl))
  f152 := Tryz.func128.trans (congrArg some (by kernel_rfl))
  f153 := Tryz.func91.trans (congrArg some (by kernel_rfl))
  f217 := Tryz.func134.trans (congrArg some (by kernel_rfl))
  f224 := Tryz.func140.trans (congrArg some (by kernel_rfl))
  f225 := Tryz.func141.trans (congrArg some (by kernel_rfl))
  f226 := Tryz.func129.trans (congrArg some (by kernel_rfl))
  f227 := Tryz.func130.trans (congrArg some (by kernel_rfl))
  f228 := Tryz.func131.trans (congrArg some (by kernel_rfl))
  f266 := Tryz.func142.trans (congrArg some (by kernel_rfl))
  t0 := Tryz.underlying0
  a0 := Tryz.isAgg0
  z0 := Tryz.sizeOf0
  v0 := Tryz.zeroValue0
  t3 := Tryz.underlying3
  a3 := Tryz.isAgg3
  z3 := Tryz.sizeOf3
  v3 := Tryz.zeroValue3
  t4 := Tryz.underlying4
  a4 := Tryz.isAgg4
  z4 := Tryz.sizeOf4
  v4 := Tryz.zeroValue4
  t5 := Tryz.underlying5
  a5 := Tryz.isAgg5
  z5 := Tryz.sizeOf5
  v5 := Tryz.zeroValue5
  t9 := Tryz.underlying9
  a9 := Tryz.isAgg9
  z9 := Tryz.sizeOf9
  v9 := Tryz.zeroValue9
  t21 := Tryz.underlying21
  a21 := Tryz.isAgg21
  z21 := Tryz.sizeOf21
  v21 := Tryz.zeroValue21
  t46 := Tryz.underlying116
  a46 := Tryz.isAgg116
  z46 := Tryz.sizeOf116
  v46 := Tryz.zeroValue116
  t116 := Tryz.underlying152
  a116 := Tryz.isAgg152
  z116 := Tryz.sizeOf152
  t117 := Tryz.underlying153
  a117 := Tryz.isAgg153
  z117 := Tryz.sizeOf153
  v117 := Tryz.zeroValue153
  t124 := Tryz.underlying167
  a124 := Tryz.isAgg167
  z124 := Tryz.sizeOf167
  v124 := Tryz.zeroValue167 }
open Go.RowKit Go.Lib in
theorem Tryz.strings_IndexAny_none (s chars : ByteArray) (w : World) (h0 : chars.size = 0) :
    Calls Tryz.prog 91 #[.string s, .string chars] w fun e w' => e = .returned (.int .i64 (Lib.indexAny s.data.toList chars.data.toList)) ∧ w' = w := Any.strings_IndexAny_none Tryz.lays153 s chars w h0
open Go.RowKit Go.Lib in
theorem Tryz.strings_IndexAny_one (s chars : ByteArray) (w : World) (h1 : chars.size = 1) (hascii : ∀ (j : Nat) b, chars.data.toList[j]? = some b → b.toNat < 128) :
    Calls Tryz.prog 91 #[.string s, .string chars] w fun e w' => e = .returned (.int .i64 (Lib.indexAny s.data.toList chars.data.toList)) ∧ w' = w := Any.strings_IndexAny_one Tryz.lays153 s chars w h1 hascii
open Go.RowKit Go.Lib in
theorem Tryz.strings_IndexAny_short (s chars : ByteArray) (w : World) (h2 : 2 ≤ chars.size) (h8 : s.size ≤ 8) (hascii : ∀ (j : Nat) b, s.data.toList[j]? = some b → b.toNat < 128) :
    Calls Tryz.prog 91 #[.string s, .string chars] w fun e w' => e = .returned (.int .i64 (Lib.indexAny s.data.toList chars.data.toList)) ∧ ∃ pos, w' = w.iter s pos := Any.strings_IndexAny_short Tryz.lays153 s chars w h2 h8 hascii
def Tryz.lays227_ren : Go.Shelf.Ren := ⟨fun | 227 => 130 | n => n, fun | 9 => 9 | 116 => 152 | 4 => 4 | 0 => 0 | 3 => 3 | 5 => 5 | n => n, fun | n => n⟩
theorem Tryz.lays227 : Go.Proofs.Lays.n227 Tryz.prog Tryz.lays227_ren := {
  mixed := by kernel_rfl
  f227 := Tryz.func130.trans (congrArg some (by kernel_rfl))
  t0 := Tryz.underlying0
  a0 := Tryz.isAgg0
  z0 := Tryz.sizeOf0
  v0 := Tryz.zeroValue0
  t3 := Tryz.underlying3
  a3 := Tryz.isAgg3
  z3 := Tryz.sizeOf3
  v3 := Tryz.zeroValue3
  t4 := Tryz.underlying4
  a4 := Tryz.isAgg4
  z4 := Tryz.sizeOf4
  v4 := Tryz.zeroValue4
  t5 := Tryz.underlying5
  a5 := Tryz.isAgg5
  z5 := Tryz.sizeOf5
  v5 := Tryz.zeroValue5
  t9 := Tryz.underlying9
  a9 := Tryz.isAgg9
  z9 := Tryz.sizeOf9
  v9 := Tryz.zeroValue9
  t116 := Tryz.underlying152
  a116 := Tryz.isAgg152
  z116 := Tryz.sizeOf152 }
open Go.RowKit Go.Lib in
theorem Tryz.strings_makeASCIISet (hv116 : ∀ w, (zeroValue 152).run Tryz.prog w = .ok (.agg (Array.replicate 256 (.bool false))) w) (chars : ByteArray) (w : World) (hs : chars.size < 4294967281) (hascii : ∀ (j : Nat) b, chars.data.toList[j]? = some b → b.toNat < 128) :
    Calls Tryz.prog 130 #[.string chars] w fun e w' => e = .returned (.tuple #[.agg (Lib.setCells chars.data.toList), .bool true]) ∧ w' = w.alloc (.cells (Lib.setCells chars.data.toList) 152) := Any.strings_makeASCIISet Tryz.lays227 hv116 (by kernel_rfl) chars w hs hascii
def Tryz.lays228_ren : Go.Shelf.Ren := ⟨fun | 228 => 131 | n => n, fun | 124 => 167 | 5 => 5 | 4 => 4 | 0 => 0 | 116 => 152 | n => n, fun | n => n⟩
theorem Tryz.lays228 : Go.Proofs.Lays.n228 Tryz.prog Tryz.lays228_ren := {
  mixed := by kernel_rfl
  f228 := Tryz.func131.trans (congrArg some (by kernel_rfl))
  t0 := Tryz.underlying0
  a0 := Tryz.isAgg0
  z0 := Tryz.sizeOf0
  v0 := Tryz.zeroValue0
  t4 := Tryz.underlying4
  a4 := Tryz.isAgg4
  z4 := Tryz.sizeOf4
  v4 := Tryz.zeroValue4
  t5 := Tryz.underlying5
  a5 := Tryz.isAgg5
  z5 := Tryz.sizeOf5
  v5 := Tryz.zeroValue5
  t116 := Tryz.underlying152
  a116 := Tryz.isAgg152
  z116 := Tryz.sizeOf152
  t124 := Tryz.underlying167
  a124 := Tryz.isAgg167
  z124 := Tryz.sizeOf167
  v124 := Tryz.zeroValue167 }
open Go.RowKit Go.Lib in
theorem Tryz.asciiSet_contains (b : Nat) (x : UInt8) (v : Bool) (w : World) (hc : w.cell? ⟨b, x.toNat, none⟩ = some (.bool v)) :
    Calls Tryz.prog 131 #[.pointer (some ⟨b, 0, none⟩), .int .u8 x.toNat] w fun e w' => e = .returned (.bool v) ∧ w' = w := Any.asciiSet_contains Tryz.lays228 b x v w hc
open Go.RowKit Go.Lib in
theorem Tryz.strings_IndexAny_long (hv116 : ∀ w, (zeroValue 152).run Tryz.prog w = .ok (.agg (Array.replicate 256 (.bool false))) w) (s chars : ByteArray) (w : World) (h2 : 2 ≤ chars.size) (h8 : 8 < s.size) (hs : s.size < 4294967281) (hcs : chars.size < 4294967281) (hascii : ∀ (j : Nat) b, chars.data.toList[j]? = some b → b.toNat < 128) :
    Calls Tryz.prog 91 #[.string s, .string chars] w fun e w' => e = .returned (.int .i64 (Lib.indexAny s.data.toList chars.data.toList)) ∧ w' = ((w.alloc (.cells (Lib.setCells chars.data.toList) 152)).alloc (.cells (Lib.setCells chars.data.toList) 152)) := Any.strings_IndexAny_long Tryz.lays153 hv116 (by kernel_rfl) s chars w h2 h8 hs hcs hascii
open Go.RowKit Go.Lib in
theorem Tryz.strings_IndexAny (hv116 : ∀ w, (zeroValue 152).run Tryz.prog w = .ok (.agg (Array.replicate 256 (.bool false))) w) (s chars : ByteArray) (w : World) (hs : s.size < 4294967281) (hcs : chars.size < 4294967281) (has : ∀ (j : Nat) b, s.data.toList[j]? = some b → b.toNat < 128) (hac : ∀ (j : Nat) b, chars.data.toList[j]? = some b → b.toNat < 128) :
    Calls Tryz.prog 91 #[.string s, .string chars] w fun e w' => e = .returned (.int .i64 (Lib.indexAny s.data.toList chars.data.toList)) ∧ Below w.heap.size w w' := Any.strings_IndexAny Tryz.lays153 hv116 (by kernel_rfl) s chars w hs hcs has hac
def Tryz.lays150_ren : Go.Shelf.Ren := ⟨fun | 150 => 47 | 153 => 91 | 152 => 128 | 226 => 129 | 227 => 130 | 228 => 131 | 137 => 102 | 119 => 139 | 224 => 140 | 225 => 141 | 217 => 134 | 266 => 142 | n => n, fun | 9 => 9 | 4 => 4 | 3 => 3 | 5 => 5 | 21 => 21 | 117 => 153 | 116 => 152 | 0 => 0 | 46 => 116 | 124 => 167 | n => n, fun | n => n⟩
theorem Tryz.lays150 : Go.Proofs.Lays.n150 Tryz.prog Tryz.lays150_ren := {
  mixed := by kernel_rfl
  f119 := Tryz.func139.trans (congrArg some (by kernel_rfl))
  f137 := Tryz.func102.trans (congrArg some (by kernel_rfl))
  f150 := Tryz.func47.trans (congrArg some (by kernel_rfl))
  f152 := Tryz.func128.trans (congrArg some (by kernel_rfl))
  f153 := Tryz.func91.trans (congrArg some (by kernel_rfl))
  f217 := Tryz.func134.trans (congrArg some (by kernel_rfl))
  f224 := Tryz.func140.trans (congrArg some (by kernel_rfl))
  f225 := Tryz.func141.trans (congrArg some (by kernel_rfl))
  f226 := Tryz.func129.trans (congrArg some (by kernel_rfl))
  f227 := Tryz.func130.trans (congrArg some (by kernel_rfl))
  f228 := Tryz.func131.trans (congrArg some (by kernel_rfl))
  f266 := Tryz.func142.trans (congrArg some (by kernel_rfl))
  t0 := Tryz.underlying0
  a0 := Tryz.isAgg0
  z0 := Tryz.sizeOf0
  v0 := Tryz.zeroValue0
  t3 := Tryz.underlying3
  a3 := Tryz.isAgg3
  z3 := Tryz.sizeOf3
  v3 := Tryz.zeroValue3
  t4 := Tryz.underlying4
  a4 := Tryz.isAgg4
  z4 := Tryz.sizeOf4
  v4 := Tryz.zeroValue4
  t5 := Tryz.underlying5
  a5 := Tryz.isAgg5
  z5 := Tryz.sizeOf5
  v5 := Tryz.zeroValue5
  t9 := Tryz.underlying9
  a9 := Tryz.isAgg9
  z9 := Tryz.sizeOf9
  v9 := Tryz.zeroValue9
  t21 := Tryz.underlying21
  a21 := Tryz.isAgg21
  z21 := Tryz.sizeOf21
  v21 := Tryz.zeroValue21
  t46 := Tryz.underlying116
  a46 := Tryz.isAgg116
  z46 := Tryz.sizeOf116
  v46 := Tryz.zeroValue116
  t116 := Tryz.underlying152
  a116 := Tryz.isAgg152
  z116 := Tryz.sizeOf152
  t117 := Tryz.underlying153
  a117 := Tryz.isAgg153
  z117 := Tryz.sizeOf153
  v117 := Tryz.zeroValue153
  t124 := Tryz.underlying167
  a124 := Tryz.isAgg167
  z124 := Tryz.sizeOf167
  v124 := Tryz.zeroValue167 }
open Go.RowKit Go.Lib in
theorem Tryz.strings_ContainsAny (hv116 : ∀ w, (zeroValue 152).run Tryz.prog w = .ok (.agg (Array.replicate 256 (.bool false))) w) (s chars : ByteArray) (w : World) (hs : s.size < 4294967281) (hcs : chars.size < 4294967281) (has : ∀ (j : Nat) b, s.data.toList[j]? = some b → b.toNat < 128) (hac : ∀ (j : Nat) b, chars.data.toList[j]? = some b → b.toNat < 128) :
    Calls Tryz.prog 47 #[.string s, .string chars] w fun e w' => e = .returned (.bool (Lib.containsAny s.data.toList chars.data.toList)) ∧ Below w.heap.size w w' := Any.strings_ContainsAny Tryz.lays150 hv116 (by kernel_rfl) s chars w hs hcs has hac
open Go.RowKit Go.Lib in
theorem Tryz.strings_IndexAny_laid (s chars : ByteArray) (w : World) (hs : s.size < 4294967281) (hcs : chars.size < 4294967281) (has : ∀ (j : Nat) b, s.data.toList[j]? = some b → b.toNat < 128) (hac : ∀ (j : Nat) b, chars.data.toList[j]? = some b → b.toNat < 128) :
    Calls Tryz.prog 91 #[.string s, .string chars] w fun e w' => e = .returned (.int .i64 (Lib.indexAny s.data.toList chars.data.toList)) ∧ Below w.heap.size w w' := Any.strings_IndexAny_laid Tryz.lays153 (by kernel_rfl) s chars w hs hcs has hac
open Go.RowKit Go.Lib in
theorem Tryz.strings_ContainsAny_laid (s chars : ByteArray) (w : World) (hs : s.size < 4294967281) (hcs : chars.size < 4294967281) (has : ∀ (j : Nat) b, s.data.toList[j]? = some b → b.toNat < 128) (hac : ∀ (j : Nat) b, chars.data.toList[j]? = some b → b.toNat < 128) :
    Calls Tryz.prog 47 #[.string s, .string chars] w fun e w' => e = .returned (.bool (Lib.containsAny s.data.toList chars.data.toList)) ∧ Below w.heap.size w w' := Any.strings_ContainsAny_laid Tryz.lays150 (by kernel_rfl) s chars w hs hcs has hac
end Go.Proofs

/- PU1:
  Formulas put into formulas: areFormulas, putInto, PutFormulas of the program. -/
namespace Go.Proofs.YtleighihfgabkaaGreatDoor
open Go.RowKit
set_option linter.unusedVariables false
set_option linter.unusedSimpArgs false
set_option maxRecDepth 100000 in
set_option maxHeartbeats 4000000 in
theorem areFormulas_any {base : Nat} {v : Value} {xs : List ByteArray} (hl : xs.length ≤ 1048576) {ad : Addr} (w : World) (ho : OwnsS w base v xs) (hE : ErrAt w ad) :
    Calls Tryz.prog 64 #[v] w fun e w' => e = .returned (.bool (allFm xs xs.length)) ∧ Below w.heap.size w w' := by
  obtain ⟨a, cap, rfl, hc⟩ := ho.cellsS
  have HC := Lib.hid hc
  have HE := Lib.hid (fun w' (hb : Below w.heap.size w w') => hE.below hb)
  clear ho hc hE
  go_enter Tryz.func64, Tryz.ntmps64
  go_wp2_with fail
  go_loopw [7] (fun i wr => ∃ j : Nat, j ≤ xs.length ∧ i = .int .i64 (j : Nat) ∧ Hid (∀ q (h : q < xs.length), q < j → isFm xs[q] = true) ∧ Below w.heap.size w wr) (fun i _ => xs.length - (intOf i).toNat)
  case atStart => exact ⟨0, Nat.zero_le _, rfl, Lib.hid fun q _ h => by omega, Below.refl _ _⟩
  case round =>
    obtain ⟨j, hj, rfl, HA, hN⟩ := hrel
    by_cases hlt : j < xs.length
    · obtain ⟨g, rfl, _, _, hcell⟩ := HC.out (by omega)
      have d1 := kc hN (hcell j hlt)
      have I := Lib.hid (implIsFormula_any xs[j] wr (HE.out wr hN))
      have hlt2 : decide ((j : Int) < (xs.length : Int)) = true := by simp; omega
      cases hb : isFm xs[j]
      · rw [hb] at I
        have E := Lib.hid (allFm_no hlt hb)
        clear hb hcell
        generalize xs[j] = X at *
        go_wp2_with (go_at_call 9; refine (I.out).mono ?_; rintro e w3 ⟨rfl, hb3⟩)
        go_ret
        exact ⟨by rw [E.out]; try rfl, bthen hN hb3⟩
      · rw [hb] at I
        have HA2 : Hid (∀ q (h : q < xs.length), q < j + 1 → isFm xs[q] = true) := Lib.hid fun q hq hq2 => by
          by_cases e : q = j
          · subst e; exact hb
          · exact HA.out q hq (by omega)
        clear hb hcell HA
        generalize xs[j] = X at d1 I
        go_wp2_with (go_at_call 9; refine (I.out).mono ?_; rintro e w3 ⟨rfl, hb3⟩)
        go_roundw
        case rel => exact ⟨j + 1, by omega, by go_num, HA2, bthen hN hb3⟩
        case measure => simp [intOf]; omega
    · obtain rfl : j = xs.length := by omega
      have hall : allFm xs xs.length = true := by
        unfold allFm
        rw [List.take_length, List.all_eq_true]
        intro y hy
        obtain ⟨q, hq, rfl⟩ := List.getElem_of_mem hy
        exact HA.out q hq hq
      have hlt2 : decide ((xs.length : Int) < (xs.length : Int)) = false := by simp
      have E := Lib.hid hall
      clear hall
      go_wp2_with fail
      go_ret
      exact ⟨by rw [E.out]; try rfl, hN⟩
theorem index_var {z : UInt8} : Lib.indexByte (⟨#[97, 98, 99, 100]⟩ : ByteArray).data.toList z = if 97 ≤ z.toNat ∧ z.toNat ≤ 100 then (z.toNat : Int) - 97 else -1 := by
  have hall : ∀ k < 256, Lib.indexByte [97, 98, 99, 100] (UInt8.ofNat k) = if 97 ≤ k ∧ k ≤ 100 then (k : Int) - 97 else -1 := by decide +kernel
  have := hall z.toNat (UInt8.toNat_lt z)
  rwa [UInt8.ofNat_toNat] at this
theorem strCells_eq (s : ByteArray) : Lib.strCells s = Lib.byteCells s.data.toList := by
  first | rfl | (unfold Lib.strCells Lib.byteCells; simp)
set_option maxRecDepth 100000 in
set_option maxHeartbeats 8000000 in
theorem putInto_any {base : Nat} {v : Value} {xs : List ByteArray} (h4 : xs.length = 4) (hx : ∀ i (h : i < xs.length), (xs[i]).size ≤ 60) {s : ByteArray} (hs : s.size ≤ 60) (w : World) (ho : OwnsS w base v xs) :
    Calls Tryz.prog 65 #[.string s, v] w fun e w' => e = .returned (.string (putS xs s.data.toList)) ∧ Below w.heap.size w w' := by
  obtain ⟨a, cap, rfl, hc⟩ := ho.cellsS
  obtain ⟨g, rfl, _, _, hcell⟩ := hc (by omega)
  have HC := Lib.hid hcell
  have HX := Lib.hid hx
  have L4 := Lib.hid h4
  have IB := Lib.hid (Lib.fresh_isBuilder 119 5 w)
  have HB0 := Lib.hid (bnew w (.cells #[.pointer none, .slice none 0 0] 119))
  have hlen : s.data.toList.length ≤ s.size := Nat.le_of_eq Array.length_toList
  rw [h4]
  clear ho hc hcell h4 hx
  go_enter Tryz.func65, Tryz.ntmps65
  go_wp2_with fail
  go_loopw [10] (fun i wr => ∃ k : Nat, k ≤ s.size ∧ i = .int .i64 (k : Nat) ∧ Hid (Lib.IsBuilder 119 5 w.heap.size w.heap.size (Lib.byteCells ((s.data.toList.take k).flatMap (putB xs))) wr) ∧ Hid (Below w.heap.size w wr)) (fun i _ => s.size - (intOf i).toNat)
  case atStart => exact ⟨0, Nat.zero_le _, rfl, IB, HB0⟩
  case round =>
    clear IB HB0
    obtain ⟨k, hk, rfl, IB, HB⟩ := hrel
    by_cases hlt : k < s.size
    · have T := Lib.hid (take_byte s k hlt)
      have hlt2 : decide ((k : Int) < (s.size : Int)) = true := by simp; omega
      have hsz := HB.out.size
      have PZ := Lib.hid (putS_size HX.out (s.data.toList.take k))
      have hLn : ((s.data.toList.take k).flatMap (putB xs)).length ≤ 3600 := by
        have h1 := PZ.out
        have h2 : (s.data.toList.take k).length ≤ 60 := by rw [List.length_take]; omega
        have h3 : (putS xs (s.data.toList.take k)).size = ((s.data.toList.take k).flatMap (putB xs)).length := by
          show ((s.data.toList.take k).flatMap (putB xs)).toArray.size = _
          simp
        omega
      have HL := Lib.hid hLn
      by_cases h1 : 97 ≤ s[k].toNat ∧ s[k].toNat ≤ 100
      · obtain ⟨q, hq⟩ : ∃ q, s[k].toNat = 97 + q := ⟨s[k].toNat - 97, by omega⟩
        have hq4 : q < 4 := by omega
        have hqx : q < xs.length := by have := L4.out; omega
        have IX := Lib.hid (fun w => stIndexByte_at (s := ⟨#[97, 98, 99, 100]⟩) (z := s[k]) (k := (s[k].toNat : Int)) (i := (q : Int)) rfl (by rw [index_var, if_pos h1]; omega) w)
        have d1 := kc HB.out (HC.out q hqx)
        have EB := Lib.hid (show (s.data.toList.take (k + 1)).flatMap (putB xs) = (s.data.toList.take k).flatMap (putB xs) ++ (xs[q]).data.toList by
          rw [T.out, List.flatMap_append]
          congr 1
          simp only [List.flatMap_cons, List.flatMap_nil, List.append_nil]
          unfold putB
          rw [if_pos h1, show s[k].toNat - 97 = q by omega, List.getElem?_eq_getElem hqx]
          rfl)
        have hX60 := HX.out q hqx
        obtain ⟨t, ht⟩ : ∃ t, xs[q] = t := ⟨_, rfl⟩
        rw [ht] at d1 EB hX60
        have WS := Lib.hid (fun (_ : Unit) => WriteString_any w.heap.size w.heap.size _ t wr IB.out (by rw [Lib.byteCells_length]; omega) HB.out.size)
        have c0 : decide ((0 : Int) ≤ (q : Int)) = true := by simp
        have hq0 : (0 : Int) ≤ (q : Int) := by omega
        clear ht h1 hq hLn
        go_wp2_with (first
          | (go_at_call 102; refine (IX.out _).mono ?_; rintro e w' ⟨rfl, rfl⟩)
          | (go_at_call 103; refine (WS.out ()).mono ?_; rintro e w3 ⟨rfl, hb3, hbb⟩))
        go_roundw
        case rel => exact ⟨k + 1, by omega, by go_num, Lib.hid (.inr (by rw [EB.out]; rw [strCells_eq] at hb3; simpa [Lib.byteCells] using hb3)), Lib.hid (HB.out.trans hbb)⟩
        case measure => simp [intOf]; omega
      · have IX := Lib.hid (fun w => stIndexByte_at (s := ⟨#[97, 98, 99, 100]⟩) (z := s[k]) (k := (s[k].toNat : Int)) (i := -1) rfl (by rw [index_var, if_neg h1]) w)
        have EB := Lib.hid (show (s.data.toList.take (k + 1)).flatMap (putB xs) = (s.data.toList.take k).flatMap (putB xs) ++ [s[k]] by
          rw [T.out, List.flatMap_append]
          congr 1
          simp only [List.flatMap_cons, List.flatMap_nil, List.append_nil]
          unfold putB
          rw [if_neg h1])
        have WB := Lib.hid (fun (_ : Unit) => WriteByte_any w.heap.size w.heap.size _ (s[k].toNat : Int) wr IB.out (by rw [Lib.byteCells_length]; omega) HB.out.size)
        clear h1 hLn
        go_wp2_with (first
          | (go_at_call 102; refine (IX.out _).mono ?_; rintro e w' ⟨rfl, rfl⟩)
          | (go_at_call 104; refine (WB.out ()).mono ?_; rintro e w3 ⟨rfl, hb3, hbb⟩))
        go_roundw
        case rel => exact ⟨k + 1, by omega, by go_num, Lib.hid (.inr (by rw [EB.out]; simpa [Lib.byteCells] using hb3)), Lib.hid (HB.out.trans hbb)⟩
        case measure => simp [intOf]; omega
    · obtain rfl : k = s.size := by omega
      have hlt2 : decide ((s.size : Int) < (s.size : Int)) = false := by simp
      have e : s.data.toList.take s.size = s.data.toList := List.take_of_length_le hlen
      rw [e] at IB
      have ST := Lib.hid (fun (_ : Unit) => Tryz.Builder_String_any w.heap.size w.heap.size _ wr IB.out HB.out.size)
      clear e
      go_wp2_with (go_at_call 105; refine (ST.out ()).mono ?_; rintro e w3 ⟨rfl, hb3⟩)
      go_ret
      exact ⟨rfl, HB.out.trans hb3⟩
end Go.Proofs.YtleighihfgabkaaGreatDoor

/- PF7:
  Sizes and depths of nodes. -/
namespace Go.Proofs.YtleighihfgabkaaGreatDoor
open Go.RowKit
set_option linter.unusedVariables false
set_option linter.unusedSimpArgs false
theorem Fm.head_plc {f : Fm} (h : f.wf) : plc f.head = some f.kids.length := by
  cases f with
  | leaf c => exact h
  | one c a => exact h.1
  | two c a b => exact h.1
  | three c a b d => exact h.1
theorem gts_append (l m : List UInt8) : gts (l ++ m) = gts l + gts m := by simp [gts]
theorem gts_flat (ks : List Fm) : gts ((ks.map Fm.txt).flatten) = (ks.map fun g => gts g.txt).sum := by
  induction ks with
  | nil => rfl
  | cons k ks ih => simp only [List.map_cons, List.flatten_cons, List.sum_cons, gts_append, ih]
/-- The size as far as the first j kids go. -/
def Fm.szTo (f : Fm) (j : Nat) : Nat := min 1 f.kids.length + ((f.kids.take j).map fun g => gts g.txt).sum
theorem Fm.szTo_succ (f : Fm) (j : Nat) (h : j < f.kids.length) : f.szTo (j + 1) = f.szTo j + gts f.kids[j].txt := by
  unfold Fm.szTo
  rw [List.take_succ_eq_append_getElem h, List.map_append, List.sum_append]
  simp
  omega
theorem Fm.szTo_all {f : Fm} (w : f.wf) : f.szTo f.kids.length = gts f.txt := by
  have e1 : gts f.txt = (if 0 < plI f.head then 1 else 0) + gts ((f.kids.map Fm.txt).flatten) := by
    rw [f.txt_kids]
    unfold gts
    rw [List.countP_cons]
    simp
    omega
  have e2 := plI_some (Fm.head_plc w)
  rw [e1, e2, gts_flat]
  unfold Fm.szTo
  rw [List.take_length]
  by_cases h : f.kids.length = 0
  · rw [h]; simp
  · rw [if_pos (by omega), show min 1 f.kids.length = 1 by omega]
theorem Fm.szTo_le {f : Fm} (w : f.wf) (j : Nat) (h : j ≤ f.kids.length) : f.szTo j ≤ f.txt.length := by
  have h1 : f.szTo j ≤ f.szTo f.kids.length := by
    have e : (f.kids.map fun g => gts g.txt).sum = ((f.kids.take j).map fun g => gts g.txt).sum + ((f.kids.drop j).map fun g => gts g.txt).sum := by
      rw [← List.sum_append, ← List.map_append, List.take_append_drop]
    unfold Fm.szTo
    rw [List.take_length, e]
    omega
  have h2 := Fm.szTo_all w
  have h3 := gts_le f.txt
  omega
theorem KidsOf.form {W : World} {f : Fm} {s : Value} (h : KidsOf W f s) : ∃ a cap, s = .slice a f.kids.length cap ∧ (0 < f.kids.length → ∃ g, a = some ⟨g, 0, none⟩ ∧ ∀ i (h : i < f.kids.length), ∃ kb, W.cell? ⟨g, i, none⟩ = some (.pointer (some ⟨kb, 0, none⟩)) ∧ IsNode W f.kids[i] 0 kb) := by
  rcases h with ⟨h0, rfl⟩ | ⟨h0, g, cap, rfl, hk⟩
  · exact ⟨none, 0, by rw [h0], fun h => by omega⟩
  · exact ⟨_, cap, rfl, fun _ => ⟨g, rfl, hk⟩⟩
set_option maxRecDepth 100000 in
set_option maxHeartbeats 8000000 in
theorem nodeSize_any : ∀ (n : Nat) (f : Fm), f.wf → f.txt.length ≤ n → n ≤ 1048576 → ∀ (b : Nat) (w : World), IsNode w f 0 b →
    Calls Tryz.prog 60 #[.pointer (some ⟨b, 0, none⟩)] w fun e w' => e = .returned (.int .i64 (gts f.txt : Int)) ∧ Below w.heap.size w w' := by
  intro n
  induction n with
  | zero => intro f _ h; have := f.txt_pos; omega
  | succ n ih =>
    intro f wf hf hn b w hN
    obtain ⟨_, _, c1, s, c2, hk⟩ := hN.open
    obtain ⟨a, cap, rfl, hkk⟩ := hk.form
    have O := Lib.hid (ownSize_any (Fm.head_plc wf) w)
    have HK := Lib.hid hkk
    have IH := Lib.hid ih
    have HA := Lib.hid (Fm.szTo_all wf)
    obtain ⟨v, hv⟩ : ∃ v, gV f.head = v := ⟨_, rfl⟩
    rw [hv] at O c1
    have hk3 := f.kids_le
    obtain ⟨u, x, K, r, hvv, _, _⟩ := gateP (Fm.head_plc wf)
    rw [hv] at hvv
    subst hvv
    clear hk hkk ih hN hv
    go_enter Tryz.func60, Tryz.ntmps60
    go_wp2_with (go_at_call 101; refine (O.out).mono ?_; rintro e w2 ⟨rfl, hb2⟩; have c2' := kc hb2 c2)
    have HB2 := Lib.hid hb2
    clear hb2 c2 c1 O
    go_loopw [3, 16] (fun c i wr => ∃ k : Nat, k ≤ f.kids.length ∧ i = .int .i64 (k : Nat) ∧ c = .int .i64 (f.szTo k : Nat) ∧ Below w.heap.size w wr) (fun _ i _ => f.kids.length - (intOf i).toNat)
    case atStart => exact ⟨0, Nat.zero_le _, rfl, by simp [Fm.szTo], HB2.out⟩
    case round =>
      obtain ⟨k, hk, rfl, rfl, hN⟩ := hrel
      by_cases hlt : k < f.kids.length
      · obtain ⟨g, rfl, hkk⟩ := HK.out (by omega)
        obtain ⟨kb, ck, nk⟩ := hkk k hlt
        have ck' := kc hN ck
        have I := Lib.hid (IH.out f.kids[k] (Fm.kids_wf wf _ (List.getElem_mem hlt)) (by have := Fm.kids_lt (f := f) _ (List.getElem_mem hlt); omega) (by omega) kb wr (nk.below hN))
        have hl1 := Fm.szTo_le wf (k + 1) (by omega)
        have e1 := f.szTo_succ k hlt
        obtain ⟨q, hq⟩ : ∃ q, gts f.kids[k].txt = q := ⟨_, rfl⟩
        obtain ⟨p, hp⟩ : ∃ p, f.szTo k = p := ⟨_, rfl⟩
        obtain ⟨p', hp'⟩ : ∃ p', f.szTo (k + 1) = p' := ⟨_, rfl⟩
        rw [hq] at I e1
        rw [hp] at e1
        rw [hp'] at e1 hl1
        rw [hp]
        have HP := Lib.hid hp'
        have eN : IntKind.i64.wrap ((p : Int) + (q : Int)) = ((p' : Nat) : Int) := by rw [wrap64_small (by omega) (by omega)]; omega
        clear hkk ck nk hq hp hp' HA
        go_wp2_with (go_at_call 60; refine (I.out).mono ?_; rintro e w3 ⟨rfl, hb3⟩)
        go_roundw
        case rel => exact ⟨k + 1, by omega, by go_num, by rw [HP.out]; congr 1; omega, bthen hN hb3⟩
        case measure => simp [intOf]; omega
      · obtain rfl : k = f.kids.length := by omega
        rw [HA.out]
        go_wp2_with fail
        go_ret
        exact ⟨rfl, hN⟩
/-- The greatest depth of the first j kids. -/
def Fm.dgTo (f : Fm) (j : Nat) : Nat := ((f.kids.take j).map fun g => g.depth).foldl max 0
theorem Fm.dgTo_succ (f : Fm) (j : Nat) (h : j < f.kids.length) : f.dgTo (j + 1) = max (f.dgTo j) (f.kids[j].depth) := by
  unfold Fm.dgTo
  rw [List.take_succ_eq_append_getElem h, List.map_append, List.foldl_append]
  rfl
theorem Fm.dgTo_all (f : Fm) : f.dgTo f.kids.length + min 1 f.kids.length = f.depth := by
  unfold Fm.dgTo
  rw [List.take_length]
  cases f <;> simp [Fm.kids, Fm.depth, List.foldl] <;> omega
theorem Fm.dgTo_le (f : Fm) (j : Nat) : j ≤ f.kids.length → f.dgTo j ≤ f.txt.length := by
  induction j with
  | zero => intro _; simp [Fm.dgTo]
  | succ j ih =>
    intro h
    have h1 := ih (by omega)
    have h2 := (f.kids[j]).depth_lt
    have h3 := Fm.kids_lt (f := f) _ (List.getElem_mem (show j < f.kids.length by omega))
    rw [f.dgTo_succ j (by omega)]
    omega
set_option maxRecDepth 100000 in
set_option maxHeartbeats 8000000 in
theorem nodeDepth_any : ∀ (n : Nat) (f : Fm), f.wf → f.txt.length ≤ n → n ≤ 1048576 → ∀ (b : Nat) (w : World), IsNode w f 0 b →
    Calls Tryz.prog 61 #[.pointer (some ⟨b, 0, none⟩)] w fun e w' => e = .returned (.int .i64 (f.depth : Int)) ∧ Below w.heap.size w w' := by
  intro n
  induction n with
  | zero => intro f _ h; have := f.txt_pos; omega
  | succ n ih =>
    intro f wf hf hn b w hN
    obtain ⟨_, _, c1, s, c2, hk⟩ := hN.open
    obtain ⟨a, cap, rfl, hkk⟩ := hk.form
    have O := Lib.hid (fun w => ownSize_any (Fm.head_plc wf) w)
    have HK := Lib.hid hkk
    have IH := Lib.hid ih
    have HA := Lib.hid f.dgTo_all
    obtain ⟨v, hv⟩ : ∃ v, gV f.head = v := ⟨_, rfl⟩
    rw [hv] at O c1
    have hk3 := f.kids_le
    obtain ⟨u, x, K, r, hvv, _, _⟩ := gateP (Fm.head_plc wf)
    rw [hv] at hvv
    subst hvv
    have C1 := Lib.hid c1
    clear hk hkk ih hN hv c1
    go_enter Tryz.func61, Tryz.ntmps61
    go_wp2_with fail
    go_loopw [3, 11] (fun c i wr => ∃ k : Nat, k ≤ f.kids.length ∧ i = .int .i64 (k : Nat) ∧ c = .int .i64 (f.dgTo k : Nat) ∧ Below w.heap.size w wr) (fun _ i _ => f.kids.length - (intOf i).toNat)
    case atStart => exact ⟨0, Nat.zero_le _, rfl, by simp [Fm.dgTo], Below.refl _ _⟩
    case round =>
      obtain ⟨k, hk, rfl, rfl, hN⟩ := hrel
      by_cases hlt : k < f.kids.length
      · obtain ⟨g, rfl, hkk⟩ := HK.out (by omega)
        obtain ⟨kb, ck, nk⟩ := hkk k hlt
        have ck' := kc hN ck
        have I := Lib.hid (IH.out f.kids[k] (Fm.kids_wf wf _ (List.getElem_mem hlt)) (by have := Fm.kids_lt (f := f) _ (List.getElem_mem hlt); omega) (by omega) kb wr (nk.below hN))
        have e1 := f.dgTo_succ k hlt
        obtain ⟨q, hq⟩ : ∃ q, f.kids[k].depth = q := ⟨_, rfl⟩
        obtain ⟨p, hp⟩ : ∃ p, f.dgTo k = p := ⟨_, rfl⟩
        rw [hq] at I e1
        rw [hp] at e1
        rw [hp]
        have HP := Lib.hid e1
        clear hkk ck nk hq hp e1 HA C1 O
        go_wp2_with (go_at_call 61; refine (I.out).mono ?_; rintro e w3 ⟨rfl, hb3⟩)
        go_roundw
        case rel => exact ⟨k + 1, by omega, by go_num, by rw [HP.out]; congr 1; first | (split <;> omega) | omega | (rw [Int.max_def, Nat.max_def]; split <;> split <;> omega), bthen hN hb3⟩
        case measure => simp [intOf]; omega
      · obtain rfl : k = f.kids.length := by omega
        have hl := f.dgTo_le _ (Nat.le_refl f.kids.length)
        have c1' := kc hN C1.out
        obtain ⟨p, hp⟩ : ∃ p, f.dgTo f.kids.length = p := ⟨_, rfl⟩
        obtain ⟨m, hm⟩ : ∃ m, min 1 f.kids.length = m := ⟨_, rfl⟩
        have hm1 : m ≤ 1 := by omega
        rw [hm] at O
        rw [hp, hm] at HA
        rw [hp] at hl ⊢
        have eN : IntKind.i64.wrap ((p : Int) + (m : Int)) = (f.depth : Int) := by rw [wrap64_small (by omega) (by omega), ← HA.out]; omega
        clear hp hm C1
        go_wp2_with (go_at_call 101; refine (O.out _).mono ?_; rintro e w3 ⟨rfl, hb3⟩)
        go_ret
        exact ⟨by first | rfl | (rw [← HA.out]; rfl), bthen hN hb3⟩
end Go.Proofs.YtleighihfgabkaaGreatDoor
