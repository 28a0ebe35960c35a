/-
  The formula with which a text begins, read in.
-/
import Derived.Test.YtleighihfgabkaaDoorPF3
namespace Go.Proofs.YtleighihfgabkaaDoor
open Go.RowKit
set_option linter.unusedVariables false
set_option linter.unusedSimpArgs false
/-- What reading in leaves: the node of the first formula, or a panic. -/
def FirstPost (s : ByteArray) (a : Addr) (w : World) (e : Ending) (w' : World) : Prop :=
  Below w.heap.size w w' ∧ match rdF s.data.toList with
    | some p => ∃ b, e = .returned (pNode b) ∧ IsNode w' p.1 w.heap.size b
    | none => e = .panicked (chainOf a)
theorem first_some {s : ByteArray} {a : Addr} {p : Fm × List UInt8} (hr : rdF s.data.toList = some p) {w : World} (h : Calls Tryd.prog 102 #[.string s] w (FirstPost s a w)) :
    Calls Tryd.prog 102 #[.string s] w fun e w' => Below w.heap.size w w' ∧ ∃ b, e = .returned (.pointer (some ⟨b, 0, none⟩)) ∧ IsNode w' p.1 w.heap.size b := by
  unfold FirstPost at h
  rw [hr] at h
  exact h
theorem first_none {s : ByteArray} {a : Addr} (hr : rdF s.data.toList = none) {w : World} (h : Calls Tryd.prog 102 #[.string s] w (FirstPost s a w)) :
    Calls Tryd.prog 102 #[.string s] w fun e w' => Below w.heap.size w w' ∧ e = .panicked (chainOf a) := by
  unfold FirstPost at h
  rw [hr] at h
  exact h
theorem ErrAt.below {w w' : World} {a : Addr} (h : ErrAt w a) (hb : Below w.heap.size w w') : ErrAt w' a := kc hb h
/-- What holds while the kids are read in: the node lies in the block B. -/
structure FSt (W0 : World) (u : TypeId) (x : Value) (ks : List Fm) (sl : Value) (W : World) : Prop where
  c0 : W.cell? ⟨W0.heap.size, 0, none⟩ = some (.string ⟨#[]⟩)
  c1 : W.cell? ⟨W0.heap.size, 1, none⟩ = some (.iface u x)
  c2 : W.cell? ⟨W0.heap.size, 2, none⟩ = some sl
  f0 : W.frozen? ⟨W0.heap.size, 0, none⟩ = false
  f1 : W.frozen? ⟨W0.heap.size, 1, none⟩ = false
  f2 : W.frozen? ⟨W0.heap.size, 2, none⟩ = false
  b : Below W0.heap.size W0 W
  k : KidsIn W (W0.heap.size + 1) ks sl
theorem FSt.below {W0 : World} {u : TypeId} {x : Value} {ks : List Fm} {sl : Value} {W W' : World} (h : FSt W0 u x ks sl W) (hb : Below W.heap.size W W') : FSt W0 u x ks sl W' :=
  ⟨kc hb h.c0, kc hb h.c1, kc hb h.c2, kf hb h.c0 h.f0, kf hb h.c1 h.f1, kf hb h.c2 h.f2, bthen h.b hb, h.k.below hb⟩
theorem Nd.wide {W : World} {n : Nat} {f : Fm} {lo hi hi' b : Nat} (hh : hi ≤ hi') (h : Nd W n f lo hi b) : Nd W n f lo hi' b := by
  cases n with
  | zero => exact h.elim
  | succ n =>
    obtain ⟨h1, h2, h3, h4, s, h5, h6⟩ := h
    refine ⟨h1, by omega, h3, h4, s, h5, ?_⟩
    rcases h6 with h6 | ⟨h0, g, cap, e, hg1, hg2, hk⟩
    · exact .inl h6
    · refine .inr ⟨h0, g, cap, e, hg1, by omega, fun i hi' => ?_⟩
      obtain ⟨kb, kl, kh, c1, c2, c3, c4⟩ := hk i hi'
      exact ⟨kb, kl, kh, c1, c2, by omega, c4⟩
/-- One kid more. -/
theorem FSt.step {W0 : World} {u : TypeId} {x : Value} {ks : List Fm} {sl : Value} {W W9 : World} (h : FSt W0 u x ks sl W) {k : Fm} {kl b g' c' : Nat} {o : Obj} (hsl : ∀ g, sl.ownBlock = some g → g < kl) (hkl : W0.heap.size + 1 ≤ kl) (hN : IsNode W k kl b)
    (ps : List Nat) (h1 : ps.length = ks.length) (h3 : ∀ i (h : i < ks.length) (h' : i < ps.length), ∃ kl kh, W0.heap.size + 1 ≤ kl ∧ kh ≤ W.heap.size ∧ Nd W (ks[i]).txt.length ks[i] kl kh ps[i] ∧ ∀ g, sl.ownBlock = some g → g < kl ∨ kh ≤ g)
    (hown : W9.ownsRow (W0.heap.size + 1) 52 1 (.slice (some ⟨g', 0, none⟩) (ks.length + 1) c') (ks.length + 1) (ps.map pNode ++ [pNode b]))
    (hgrow : (W.alloc o).grownBy W9 sl.ownBlock) (hg : sl.ownBlock = some g' ∨ W.heap.size + 1 ≤ g') :
    FSt W0 u x (ks ++ [k]) (.slice (some ⟨g', 0, none⟩) (ks.length + 1) c') (W9.setCell ⟨W0.heap.size, 2, none⟩ (.slice (some ⟨g', 0, none⟩) (ks.length + 1) c')) := by
  obtain ⟨hi, n0, n1, n2⟩ := hN
  have hB : W0.heap.size < W.heap.size := cell_lt h.c0
  have hsz : W.heap.size + 1 ≤ W9.heap.size := by have := hgrow.size; simpa using this
  have hrow : ∀ g, sl.ownBlock = some g → W0.heap.size + 1 ≤ g := fun g e => by
    obtain ⟨_, _, _, d2, _⟩ := h.k
    exact (ownsRow_at d2 e).1
  have hne : ¬ sl.ownBlock = some W0.heap.size := fun e => by have := hrow _ e; omega
  have hg1 : W0.heap.size + 1 ≤ g' := by
    rcases hg with e | e
    · exact hrow _ e
    · omega
  -- what lay in W lies in W9, but for the row
  have hk : ∀ g, g < W.heap.size → ¬ sl.ownBlock = some g → W9.heap[g]? = W.heap[g]? := fun g hg' hne' => by
    rw [hgrow.block g (by simp; omega) (fun e => hne' e.symm)]
    exact (bnew W o).block g hg'
  have hc : ∀ j, W9.cell? ⟨W0.heap.size, j, none⟩ = W.cell? ⟨W0.heap.size, j, none⟩ := fun j => World.cell?_of_block (w := W) (a := ⟨W0.heap.size, j, none⟩) (hk _ hB hne)
  have hf : ∀ j, W9.frozen? ⟨W0.heap.size, j, none⟩ = W.frozen? ⟨W0.heap.size, j, none⟩ := fun j => World.frozen?_of_block (w := W) (a := ⟨W0.heap.size, j, none⟩) (hk _ hB hne)
  have b9 : Below W0.heap.size W0 W9 := ⟨by rw [hgrow.os]; exact (bthen h.b (bnew W o)).os, by rw [hgrow.tape]; exact (bthen h.b (bnew W o)).tape, by rw [hgrow.output]; exact (bthen h.b (bnew W o)).output, by omega, fun g hg' => by
    rw [hk g (by omega) (fun e => by have := hrow _ e; omega)]
    exact h.b.block g hg'⟩
  have kk : KidsIn W9 (W0.heap.size + 1) (ks ++ [k]) (.slice (some ⟨g', 0, none⟩) (ks.length + 1) c') :=
    KidsIn.snoc (W := W) ps h1 h3 (Nd.wide n1 n2) hkl hsl hown (by omega) hk (by rcases hg with e | e; exact .inl e; exact .inr (by omega))
  refine ⟨?_, ?_, ?_, ?_, ?_, ?_, b9.setCell (p := ⟨W0.heap.size, 2, none⟩) (Nat.le_refl _) _, ?_⟩
  · simp [go_sem, hc, h.c0]
  · simp [go_sem, hc, h.c1]
  · simp [go_sem, hc, h.c2]
  · rw [World.frozen?_setCell, hf]; exact h.f0
  · rw [World.frozen?_setCell, hf]; exact h.f1
  · rw [World.frozen?_setCell, hf]; exact h.f2
  · exact kk.keep (by simp) fun g hg1 _ => Below.heap_setCell _ _ _ g (by intro e; simp at e; omega)
theorem Nd.lower {W : World} {n : Nat} {f : Fm} {lo lo' hi b : Nat} (hh : lo' ≤ lo) (h : Nd W n f lo hi b) : Nd W n f lo' hi b := by
  cases n with
  | zero => exact h.elim
  | succ n =>
    obtain ⟨h1, h2, h3, h4, s, h5, h6⟩ := h
    refine ⟨by omega, h2, h3, h4, s, h5, ?_⟩
    rcases h6 with h6 | ⟨h0, g, cap, e, hg1, hg2, hk⟩
    · exact .inl h6
    · refine .inr ⟨h0, g, cap, e, by omega, hg2, fun i hi' => ?_⟩
      obtain ⟨kb, kl, kh, c1, c2, c3, c4⟩ := hk i hi'
      exact ⟨kb, kl, kh, c1, by omega, c3, c4⟩
/-- What a node leads to, as a reader wants it. -/
def KidsOf (W : World) (f : Fm) (s : Value) : Prop :=
  (f.kids.length = 0 ∧ s = .slice none 0 0) ∨ (0 < f.kids.length ∧ ∃ g cap, s = .slice (some ⟨g, 0, none⟩) f.kids.length cap ∧ ∀ i (h : i < f.kids.length), ∃ kb, W.cell? ⟨g, i, none⟩ = some (.pointer (some ⟨kb, 0, none⟩)) ∧ IsNode W f.kids[i] 0 kb)
theorem Nd.fit {W : World} : ∀ (n : Nat) (f : Fm) (lo hi b : Nat), Nd W n f lo hi b → Nd W f.txt.length f lo hi b := by
  intro n
  induction n with
  | zero => intro f lo hi b h; exact h.elim
  | succ n ih =>
    intro f lo hi b ⟨h1, h2, h3, h4, s, h5, h6⟩
    obtain ⟨m, hm⟩ : ∃ m, f.txt.length = m + 1 := ⟨f.txt.length - 1, by have := f.txt_pos; omega⟩
    rw [hm]
    refine ⟨h1, h2, h3, h4, s, h5, ?_⟩
    rcases h6 with h6 | ⟨h0, g, cap, e, hg1, hg2, hk⟩
    · exact .inl h6
    · refine .inr ⟨h0, g, cap, e, hg1, hg2, fun i hi' => ?_⟩
      obtain ⟨kb, kl, kh, c1, c2, c3, c4⟩ := hk i hi'
      have := Fm.kids_lt (f := f) _ (List.getElem_mem hi')
      exact ⟨kb, kl, kh, c1, c2, c3, Nd.more _ _ _ _ _ _ (by omega) (ih _ _ _ _ c4)⟩
theorem IsNode.open {W : World} {f : Fm} {lo b : Nat} (h : IsNode W f lo b) : (lo ≤ b ∧ b < W.heap.size) ∧ W.cell? ⟨b, 0, none⟩ = some (.string f.bytes) ∧ W.cell? ⟨b, 1, none⟩ = some (gV f.head) ∧ ∃ s, W.cell? ⟨b, 2, none⟩ = some s ∧ KidsOf W f s := by
  obtain ⟨hi, h0, h1, h2⟩ := h
  obtain ⟨m, hm⟩ : ∃ m, f.txt.length = m + 1 := ⟨f.txt.length - 1, by have := f.txt_pos; omega⟩
  rw [hm] at h2
  obtain ⟨d1, d2, d3, d4, s, d5, d6⟩ := h2
  refine ⟨⟨d1, by omega⟩, d3, d4, s, d5, ?_⟩
  rcases d6 with d6 | ⟨e0, g, cap, e, hg1, hg2, hk⟩
  · exact .inl d6
  · refine .inr ⟨e0, g, cap, e, fun i hi' => ?_⟩
    obtain ⟨kb, kl, kh, c1, c2, c3, c4⟩ := hk i hi'
    exact ⟨kb, c1, kh, Nat.zero_le _, by omega, Nd.fit _ _ _ _ _ (Nd.lower (Nat.zero_le _) c4)⟩
theorem infoPN : (Tryd.prog.info? 52).map (fun i => (i.zero, i.size, i.bytes)) = some (some (.pointer none), 1, 8) := by kernel_rfl
theorem one_cell_node (b : Nat) : ∀ u ∈ [pNode b], u.oneCell' = true := by intro u hu; simp at hu; subst hu; rfl
theorem rest_list (s : ByteArray) (p : Nat) : (s.extract p s.size).data.toList = s.data.toList.drop p := by
  rw [ByteArray.data_extract, Array.toList_extract]
  have : s.data.toList.length = s.size := Array.length_toList
  rw [← this]
  apply List.take_of_length_le
  simp
theorem rest_size (s : ByteArray) (p : Nat) (h : p ≤ s.size) : (s.extract p s.size).size = s.size - p := by
  rw [ByteArray.size_extract, Nat.min_self]
theorem head_list (s : ByteArray) (p : Nat) (h : p ≤ s.size) : (s.extract 0 p).data.toList = s.data.toList.take p := by
  rw [ByteArray.data_extract, Array.toList_extract]
  simp
set_option maxRecDepth 100000 in
set_option maxHeartbeats 16000000 in
theorem firstFormula_any (a : Addr) : ∀ (n : Nat) (s : ByteArray), s.size ≤ n → s.size ≤ 1048576 → ∀ w, ErrAt w a → Calls Tryd.prog 102 #[.string s] w (FirstPost s a w) := by
  intro n
  induction n with
  | zero =>
    intro s hn hs w hE
    have hz : s.toList.isEmpty = true := by
      rw [Lib.toList_data, List.isEmpty_iff, ← List.length_eq_zero_iff, Array.length_toList]
      exact Nat.le_zero.1 hn
    have hr : rdF s.data.toList = none := by
      rw [show s.data.toList = [] from List.eq_nil_of_length_eq_zero (by rw [Array.length_toList]; exact Nat.le_zero.1 hn)]
      rfl
    unfold ErrAt errV at hE
    have HR := Lib.hid hr
    clear hr
    go_enter Tryd.func102, Tryd.ntmps102
    go_wp2_with fail
    exact ⟨rfl, Below.refl _ _, by rw [HR.out]; try rfl⟩
  | succ n ih =>
    intro s hn hs w hE
    by_cases h0 : s.size = 0
    · have hz : s.toList.isEmpty = true := by
        rw [Lib.toList_data, List.isEmpty_iff, ← List.length_eq_zero_iff, Array.length_toList]
        exact h0
      have hr : rdF s.data.toList = none := by
        rw [show s.data.toList = [] from List.eq_nil_of_length_eq_zero (by rw [Array.length_toList]; exact h0)]
        rfl
      unfold ErrAt errV at hE
      have HR := Lib.hid hr
      clear hr ih
      go_enter Tryd.func102, Tryd.ntmps102
      go_wp2_with fail
      exact ⟨rfl, Below.refl _ _, by rw [HR.out]; try rfl⟩
    · have hz : s.toList.isEmpty = false := by
        rw [Lib.toList_data, Bool.eq_false_iff]
        intro h
        rw [List.isEmpty_iff, ← List.length_eq_zero_iff, Array.length_toList] at h
        exact h0 h
      have hlt : 0 < s.size := by omega
      have hb := drop_byte s 0 hlt
      rw [List.drop_zero] at hb
      cases hc : plc s[0] with
      | none =>
        have hr : rdF s.data.toList = none := by rw [hb, rdF_bad hc]
        have G := Lib.hid (fun (_ : Unit) => gateFor_no (z := s[0]) rfl (by rw [← plc_is, hc]; rfl) a w hE)
        have HR := Lib.hid hr
        clear hr hb hc
        go_enter Tryd.func102, Tryd.ntmps102
        go_wp2_with (go_at_call 113; refine (G.out ()).mono ?_; rintro e w' ⟨rfl, rfl⟩)
        exact ⟨rfl, Below.refl _ _, by rw [HR.out]; try rfl⟩
      | some m =>
        have hm := plc_le hc
        obtain ⟨u, x, K, r, hv, hd, hp⟩ := gateP hc
        have G := Lib.hid (fun w => gateFor_any (z := s[0]) (by rw [hc]; rfl) w)
        rw [hv] at G
        have hdm := hd.m
        have hdc := hd.c
        have HP := Lib.hid hp
        have HX := Lib.hid (show rdF s.data.toList = (rdL m (s.data.toList.drop 1)).map fun q => (mkF s[0] q.1, q.2) by rw [hb]; exact rdF_head hc)
        have HV := Lib.hid hv
        have HC := Lib.hid hc
        clear hp hd hb hc hv
        obtain ⟨i0, hi, hz0, hz1, hz2⟩ := info_parts infoPN
        obtain ⟨W1, hW1⟩ : ∃ W1, w.alloc (.cells #[.string ⟨#[]⟩, .iface u x, .slice none 0 0] 73) = W1 := ⟨_, rfl⟩
        have S1 := Lib.hid (show FSt w u x [] (.slice none 0 0) W1 by
          rw [← hW1]
          refine ⟨by simp [go_sem], by simp [go_sem], by simp [go_sem], by simp [go_sem], by simp [go_sem], by simp [go_sem], bnew _ _, KidsIn.nil _ _⟩)
        have c1 := S1.out.c1
        go_enter Tryd.func102, Tryd.ntmps102
        go_wp2_with (first
          | (go_at_call 113; refine (G.out _).mono ?_; rintro e w' ⟨rfl, rfl⟩)
          | (refine (HP.out _).mono ?_; rintro e w2 ⟨rfl, hb2⟩))
        have S2 := Lib.hid (S1.out.below hb2)
        have HE := Lib.hid (fun wr (hb : Below w.heap.size w wr) => hE.below hb)
        have IH := Lib.hid ih
        have hB0 : w.heap.size < w2.heap.size := cell_lt S2.out.c0
        clear S1 hW1 c1 hb2 hdm hdc hE ih G HP
        go_loopw [4, 19] (fun len i wr => ∃ (ks : List Fm) (p : Nat) (sl : Value), i = .int .i64 (ks.length : Nat) ∧ len = .int .i64 (p : Nat) ∧ (ks.length ≤ m ∧ ks.length < p ∧ p ≤ s.size) ∧ Hid (rdL m (s.data.toList.drop 1) = (rdL (m - ks.length) (s.data.toList.drop p)).map fun q => (ks ++ q.1, q.2)) ∧ Hid (FSt w u x ks sl wr)) (fun _ i _ => m - (intOf i).toNat)
        case atStart =>
          refine ⟨[], 1, .slice none 0 0, rfl, rfl, ⟨Nat.zero_le _, by simp, by omega⟩, Lib.hid ?_, S2⟩
          simp
        case round =>
          clear S2
          obtain ⟨ks, p, sl, rfl, rfl, ⟨k1, k2, k3⟩, R, ST⟩ := hrel
          have HW := Lib.hid (HE.out wr ST.out.b)
          by_cases hk : ks.length < m
          · have hd : decide ((ks.length : Int) < (m : Int)) = true := by simp; omega
            have hp1 : (p : Int) ≤ (s.size : Int) := by omega
            have hp0 : (0 : Int) ≤ (p : Int) := by omega
            obtain ⟨j, hj⟩ : ∃ j, m - ks.length = j + 1 := ⟨m - ks.length - 1, by omega⟩
            rw [hj] at R
            have I0 := Lib.hid (IH.out (s.extract p s.size) (by rw [rest_size s p k3]; omega) (by rw [rest_size s p k3]; omega) wr HW.out)
            cases hr : rdF (s.data.toList.drop p) with
            | none =>
              have I := Lib.hid (first_none (by rw [rest_list]; exact hr) I0.out)
              have HN := Lib.hid (show rdF s.data.toList = none by rw [HX.out, R.out]; simp only [rdL, hr, Option.map_none])
              clear I0 hr R HX IH
              go_wp2_with (go_at_call 102; refine (I.out).mono ?_; rintro e w3 ⟨hb3, rfl⟩)
              exact ⟨rfl, bthen ST.out.b hb3, by rw [HN.out]; try rfl⟩
            | some q =>
              have I := Lib.hid (first_some (by rw [rest_list]; exact hr) I0.out)
              have hle := rdF_le hr
              have HR := Lib.hid (show rdL m (s.data.toList.drop 1) = (rdL (m - (ks.length + 1)) (s.data.toList.drop (p + q.1.txt.length))).map fun r => ((ks ++ [q.1]) ++ r.1, r.2) by
                rw [R.out]
                have e1 := drop_rest (rdF_some.1 hr).1
                simp only [rdL, hr, Option.map_map]
                rw [e1, show m - (ks.length + 1) = j by omega]
                congr 1
                funext r
                simp)
              have hqp := q.1.txt_pos
              have HZ := Lib.hid q.1.bytes_size
              obtain ⟨k, hkq⟩ : ∃ k, q.1 = k := ⟨_, rfl⟩
              rw [hkq] at I HZ HR hle hqp
              obtain ⟨t, ht⟩ : ∃ t, k.bytes = t := ⟨_, rfl⟩
              rw [ht] at HZ
              have hz2' := HZ.out
              have eN : IntKind.i64.wrap ((p : Int) + (t.size : Int)) = ((p + t.size : Nat) : Int) := by rw [wrap64_small (by omega) (by omega)]; omega
              have HT := Lib.hid ht
              have hkl := ST.out.k
              have hszr : w.heap.size < wr.heap.size := cell_lt ST.out.c0
              rw [← HZ.out] at HR hle hqp
              clear I0 hr R HX IH hkq HW ht hz2'
              go_wp2_with (first
                | (go_at_call 102; refine (I.out).mono ?_; rintro e w3 ⟨hb3, b, rfl, hN⟩
                   have S3 := Lib.hid (ST.out.below hb3)
                   have c2 := S3.out.c2
                   obtain ⟨_, ps, ep, hown, hk3⟩ := S3.out.k
                   have HK3 := Lib.hid hk3
                   have hB3 : w.heap.size < w3.heap.size := cell_lt S3.out.c0
                   have hs3 : wr.heap.size ≤ w3.heap.size := hb3.size
                   clear hk3)
                | (at_builtin; refine wpList_append_at rfl _ _ 71 rfl (w.heap.size + 1) 52 i0 (.pointer none) 1 8 Tryd.underlying71 hi hz0 hz1 hz2 rfl (by decide) ks.length sl (ps.map pNode) rfl (hown.alloc _) ⟨w3.heap.size, 0, none⟩ 1 1 [pNode b] rfl rfl (cell_one_new _ _ _) (one_cell_node _) (by unfold maxLen; omega) (by omega) (by simp; omega) (by decide) ?_))
              intro g' c' w9 hown' hgrow hgg
              have hsl : ∀ g, sl.ownBlock = some g → w.heap.size + 1 ≤ g ∧ g < wr.heap.size := fun g e => by
                obtain ⟨_, _, _, d2, _⟩ := hkl
                exact ownsRow_at d2 e
              obtain ⟨⟨hbl, hbs⟩, cb, _⟩ := hN.open
              have S9 := Lib.hid (S3.out.step (k := k) (kl := wr.heap.size) (fun g e => (hsl g e).2) hszr hN ps ep HK3.out hown' hgrow hgg)
              have cbx : w9.cell? ⟨b, 0, none⟩ = some (.string t) := by
                rw [← HT.out, ← cb]
                exact (World.cell?_of_block (w := w3.alloc _) (a := ⟨b, 0, none⟩) (hgrow.block b (by simp; omega) (fun e => by have := (hsl b e.symm).2; omega))).trans ((bnew w3 _).cell (p := ⟨b, 0, none⟩) hbs)
              have c2x : w9.cell? ⟨w.heap.size, 2, none⟩ = some sl := by
                rw [← c2]
                exact (World.cell?_of_block (w := w3.alloc _) (a := ⟨w.heap.size, 2, none⟩) (hgrow.block w.heap.size (by simp; omega) (fun e => by have := (hsl _ e.symm).1; omega))).trans ((bnew w3 _).cell (p := ⟨w.heap.size, 2, none⟩) hB3)
              have f2x : w9.frozen? ⟨w.heap.size, 2, none⟩ = false := by
                rw [← S3.out.f2]
                exact (World.frozen?_of_block (w := w3.alloc _) (a := ⟨w.heap.size, 2, none⟩) (hgrow.block w.heap.size (by simp; omega) (fun e => by have := (hsl _ e.symm).1; omega))).trans ((bnew w3 _).frozen (p := ⟨w.heap.size, 2, none⟩) hB3)
              have hbne : ¬ w.heap.size = b := by omega
              have HZ2 := Lib.hid hz2
              clear hown' hgrow hgg hsl hkl hown c2 cb hN hb3 S3 HK3 ep ps hz0 hz1 hz2 hi
              go_wp2_with fail
              refine ⟨⟨ks ++ [k], p + t.size, _, by simp, by simp, ⟨by simp; omega, by simp; omega, by omega⟩, Lib.hid ?_, S9⟩, by simp [intOf]; omega⟩
              rw [List.length_append]
              exact HR.out
          · obtain rfl : ks.length = m := by omega
            have hd : decide ((ks.length : Int) < (ks.length : Int)) = false := by simp
            have hp1 : (p : Int) ≤ (s.size : Int) := by omega
            have hp0 : (0 : Int) ≤ (p : Int) := by omega
            have HF := Lib.hid (show rdF s.data.toList = some (mkF s[0] ks, s.data.toList.drop p) by
              rw [HX.out, R.out, Nat.sub_self]
              simp [rdL])
            have HT := Lib.hid (show s.extract 0 p = (mkF s[0] ks).bytes by
              apply bytes_of
              rw [head_list s p k3]
              obtain ⟨e1, _⟩ := rdF_some.1 HF.out
              have e2 := congrArg List.length e1
              rw [List.length_append, List.length_drop, Array.length_toList] at e2
              have e3 : s.data.size = s.size := rfl
              rw [e3] at e2
              have e4 : (mkF s[0] ks).txt.length = p := by omega
              conv => lhs; rw [e1, ← e4, List.take_left])
            have c0 := ST.out.c0
            have f0 := ST.out.f0
            clear HX R IH hi hz0 hz1 hz2
            go_wp2_with fail
            go_ret
            refine ⟨ST.out.b.setCell (p := ⟨w.heap.size, 0, none⟩) (Nat.le_refl _) _, ?_⟩
            rw [HF.out]
            refine ⟨w.heap.size, rfl, ?_⟩
            have hB : w.heap.size < wr.heap.size := cell_lt c0
            refine KidsIn.node (sv := sl) (by omega) ?_ (Nat.le_refl _) (by simpa using hB) ?_ ?_ ?_
            · exact ST.out.k.keep (by simp) fun g hg1 _ => Below.heap_setCell _ _ _ g (by intro e; simp at e; omega)
            · rw [← HT.out]; simp [go_sem, c0]
            · rw [HV.out, ← ST.out.c1]; simp [go_sem]
            · rw [← ST.out.c2]; simp [go_sem]
end Go.Proofs.YtleighihfgabkaaDoor
