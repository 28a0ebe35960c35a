/-
  Nodes of formulas in memory; an append to a list of one's own, and where the new list lies.
-/
import Derived.Test.YtleighihfgabkaaDoorPF1
import Derived.Test.YtleighihfgabkaaDoorO3
import Derived.Deep.DeepAppendRoom
namespace Go.Proofs.YtleighihfgabkaaDoor
open Go.RowKit
set_option linter.unusedVariables false
set_option linter.unusedSimpArgs false

/-- A formula out of a byte and the formulas at its places. -/
def mkF (c : UInt8) : List Fm → Fm
  | [] => .leaf c
  | [a] => .one c a
  | [a, b] => .two c a b
  | a :: b :: d :: _ => .three c a b d
theorem mkF_kids (c : UInt8) {ks : List Fm} (h : ks.length ≤ 3) : (mkF c ks).kids = ks := by
  match ks, h with
  | [], _ => rfl
  | [a], _ => rfl
  | [a, b], _ => rfl
  | [a, b, d], _ => rfl
  | _ :: _ :: _ :: _ :: _, h => simp at h
theorem mkF_head (c : UInt8) (ks : List Fm) : (mkF c ks).head = c := by
  match ks with
  | [] => rfl
  | [a] => rfl
  | [a, b] => rfl
  | _ :: _ :: _ :: _ => rfl
/-- The first formulas of a text, and what is left. -/
def rdL : Nat → List UInt8 → Option (List Fm × List UInt8)
  | 0, l => some ([], l)
  | j + 1, l => match rdF l with
    | some p => (rdL j p.2).map fun q => (p.1 :: q.1, q.2)
    | none => none
theorem rdL_len : ∀ (m : Nat) (l : List UInt8) (p : List Fm × List UInt8), rdL m l = some p → p.1.length = m := by
  intro m
  induction m with
  | zero => intro l p h; simp only [rdL, Option.some.injEq] at h; subst h; rfl
  | succ m ih =>
    intro l p h
    simp only [rdL] at h
    cases e : rdF l with
    | none => rw [e] at h; simp at h
    | some q =>
      rw [e] at h
      simp only [Option.map_eq_some_iff] at h
      obtain ⟨r, hr, rfl⟩ := h
      simp [ih _ _ hr]
theorem rdF_head {c : UInt8} {l : List UInt8} {m : Nat} (hc : plc c = some m) : rdF (c :: l) = (rdL m l).map fun q => (mkF c q.1, q.2) := by
  have hk := plc_le hc
  rcases (show m = 0 ∨ m = 1 ∨ m = 2 ∨ m = 3 by omega) with rfl | rfl | rfl | rfl
  · rw [rdF_zero hc]; rfl
  · rw [rdF_one hc]
    simp only [rdL]
    cases rdF l with
    | none => rfl
    | some p => rfl
  · rw [rdF_two hc]
    simp only [rdL]
    cases rdF l with
    | none => rfl
    | some p =>
      simp only [Option.bind_some]
      cases rdF p.2 with
      | none => rfl
      | some q => rfl
  · rw [rdF_three hc]
    simp only [rdL]
    cases rdF l with
    | none => rfl
    | some p =>
      simp only [Option.bind_some]
      cases rdF p.2 with
      | none => rfl
      | some q =>
        simp only [Option.bind_some]
        cases rdF q.2 with
        | none => rfl
        | some r => rfl

/-- An append to a list of one's own (it may be nil): the new list lies where the old one lay, or behind all. -/
theorem wpList_append_at {P : Program} {w : World} {ops : Array Oper} {rest : List Oper} {o : Oper} {a : Act} {Q : Exit → Act → World → Prop} (hgd : o.guard = none) (s x : Operand) (t : TypeId)
    (ho : o.op = .call { callee := .builtin .append, args := #[s, x], argTypes := #[t, t] })
    (base : Nat) (e : TypeId) (i : TypeInfo) (z : Value) (size bytes : Nat) (ht : P.underlying t = some (.slice e)) (hi : P.info? e = some i) (hz : i.zero = some z)
    (hsize : i.size = size) (hby : i.bytes = bytes) (hzs : z.cells.size = size) (hsz : 0 < size)
    (n : Nat) (sv : Value) (xs : List Value) (hs : a.eval s = sv) (hown : w.ownsRow base e size sv n xs)
    (ad : Addr) (m c : Nat) (news : List Value) (hx : a.eval x = .slice (some ad) m c) (hl : news.length = m * size) (hnews : ∀ j u, news[j]? = some u → w.cell? (ad.add j) = some u) (h1 : ∀ u ∈ news, u.oneCell' = true)
    (h63 : n + m ≤ maxLen) (hbytes : (n + m) * bytes ≤ 140737488355328) (hbase : base ≤ w.heap.size) (hm : 0 < m)
    (h : ∀ g' c' w', w'.ownsRow base e size (.slice (some ⟨g', 0, none⟩) (n + m) c') (n + m) (xs ++ news) → w.grownBy w' sv.ownBlock → (sv.ownBlock = some g' ∨ w.heap.size ≤ g') → wpList P ops Q rest (a.put o.dst (.slice (some ⟨g', 0, none⟩) (n + m) c')) w') : wpList P ops Q (o :: rest) a w := by
  rcases hown.2 with ⟨rfl, h0⟩ | ⟨g, cap, cur, rfl, hr⟩
  · subst h0
    have hown0 : w.ownsRow w.heap.size e size (.slice none 0 0) 0 xs := ⟨hown.1, .inl ⟨rfl, rfl⟩⟩
    refine wpList_append_grows w hgd s x t ho e i z size bytes ht hi hz hsize hby hzs hsz none 0 0 xs hs (fun _ => ⟨rfl, rfl⟩) hown.1 (fun b e => by cases e) ad m c news hx hl hnews h1 (by omega) h63 hbytes (fun v' w' h2 h3 => ?_)
    rcases h2.2 with ⟨_, h0⟩ | ⟨g', cap', cur, rfl, hbg, rest'⟩
    · omega
    · exact h g' cap' w' ⟨h2.1, .inr ⟨g', cap', cur, rfl, by omega, rest'⟩⟩ h3 (.inr hbg)
  · by_cases hrm : n + m ≤ cap
    · exact wpList_append_own_spare w hgd s x t ho base e i size ht hi hsize g n cap xs hs hown ad m c news hx hl hnews h1 hrm (fun w' h2 h3 => h g cap w' h2 h3 (.inl rfl))
    · refine wpList_append_grows w hgd s x t ho e i z size bytes ht hi hz hsize hby hzs hsz (some ⟨g, 0, none⟩) n cap xs hs (fun h => by cases h) hown.1 (fun b e j u hj => by cases e; exact hown.cells rfl j u hj) ad m c news hx hl hnews h1 (by omega) h63 hbytes (fun v' w' h2 h3 => ?_)
      rcases h2.2 with ⟨_, h0⟩ | ⟨g', cap', cur, rfl, hbg, rest'⟩
      · omega
      · exact h g' cap' w' ⟨h2.1, .inr ⟨g', cap', cur, rfl, by omega, rest'⟩⟩ ⟨h3.os, h3.tape, h3.output, h3.size, fun k hk _ => h3.block k hk (by simp)⟩ (.inr hbg)

/-- The pointer to a node. -/
def pNode (b : Nat) : Value := .pointer (some ⟨b, 0, none⟩)
/-- The kids of a node: R is what is asked of each. -/
def KidsAt (W : World) (R : Fm → Nat → Nat → Nat → Prop) (ks : List Fm) (lo hi : Nat) (s : Value) : Prop :=
  (ks.length = 0 ∧ s = .slice none 0 0) ∨ (0 < ks.length ∧ ∃ g cap, s = .slice (some ⟨g, 0, none⟩) ks.length cap ∧ lo ≤ g ∧ g < hi ∧
    ∀ i (h : i < ks.length), ∃ kb kl kh, W.cell? ⟨g, i, none⟩ = some (pNode kb) ∧ lo ≤ kl ∧ kh ≤ hi ∧ R ks[i] kl kh kb)
/-- The node of a formula in the block b, all that it leads to in the blocks lo .. hi - 1. -/
def Nd (W : World) : Nat → Fm → Nat → Nat → Nat → Prop
  | 0, _, _, _, _ => False
  | n + 1, f, lo, hi, b => lo ≤ b ∧ b < hi ∧ W.cell? ⟨b, 0, none⟩ = some (.string f.bytes) ∧ W.cell? ⟨b, 1, none⟩ = some (gV f.head) ∧
      ∃ s, W.cell? ⟨b, 2, none⟩ = some s ∧ KidsAt W (Nd W n) f.kids lo hi s
theorem Nd.frame {W W' : World} : ∀ (n : Nat) (f : Fm) (lo hi b : Nat), (∀ g, lo ≤ g → g < hi → W'.heap[g]? = W.heap[g]?) → Nd W n f lo hi b → Nd W' n f lo hi b := by
  intro n
  induction n with
  | zero => intro f lo hi b _ h; exact h.elim
  | succ n ih =>
    intro f lo hi b hb ⟨h1, h2, h3, h4, s, h5, h6⟩
    have cb : ∀ g o, lo ≤ g → g < hi → W'.cell? ⟨g, o, none⟩ = W.cell? ⟨g, o, none⟩ := fun g o hl hh => World.cell?_of_block (w := W) (a := ⟨g, o, none⟩) (hb g hl hh)
    refine ⟨h1, h2, by rw [cb b 0 h1 h2]; exact h3, by rw [cb b 1 h1 h2]; exact h4, s, by rw [cb b 2 h1 h2]; exact h5, ?_⟩
    rcases h6 with h6 | ⟨h0, g, cap, e, hg1, hg2, hk⟩
    · exact .inl h6
    · refine .inr ⟨h0, g, cap, e, hg1, hg2, fun i hi' => ?_⟩
      obtain ⟨kb, kl, kh, c1, c2, c3, c4⟩ := hk i hi'
      exact ⟨kb, kl, kh, by rw [cb g i hg1 hg2]; exact c1, c2, c3, ih _ _ _ _ (fun x hx1 hx2 => hb x (by omega) (by omega)) c4⟩
theorem KidsAt.mono {W : World} {R R' : Fm → Nat → Nat → Nat → Prop} {ks : List Fm} {lo hi : Nat} {s : Value} (hR : ∀ f kl kh kb, R f kl kh kb → R' f kl kh kb) (h : KidsAt W R ks lo hi s) : KidsAt W R' ks lo hi s := by
  rcases h with h | ⟨h0, g, cap, e, hg1, hg2, hk⟩
  · exact .inl h
  · refine .inr ⟨h0, g, cap, e, hg1, hg2, fun i hi' => ?_⟩
    obtain ⟨kb, kl, kh, c1, c2, c3, c4⟩ := hk i hi'
    exact ⟨kb, kl, kh, c1, c2, c3, hR _ _ _ _ c4⟩
theorem Nd.more {W : World} : ∀ (n m : Nat) (f : Fm) (lo hi b : Nat), n ≤ m → Nd W n f lo hi b → Nd W m f lo hi b := by
  intro n
  induction n with
  | zero => intro m f lo hi b _ h; exact h.elim
  | succ n ih =>
    intro m f lo hi b hnm ⟨h1, h2, h3, h4, s, h5, h6⟩
    obtain ⟨m, rfl⟩ : ∃ m', m = m' + 1 := ⟨m - 1, by omega⟩
    exact ⟨h1, h2, h3, h4, s, h5, h6.mono fun f kl kh kb h => ih m f kl kh kb (by omega) h⟩
theorem Nd.below {W W' : World} {n : Nat} {f : Fm} {lo hi b : Nat} (h : Nd W n f lo hi b) (hh : hi ≤ W.heap.size) (hb : Below W.heap.size W W') : Nd W' n f lo hi b :=
  Nd.frame _ _ _ _ _ (fun g _ h2 => hb.block g (by omega)) h
/-- The node of a formula in a world. -/
def IsNode (W : World) (f : Fm) (lo b : Nat) : Prop := ∃ hi, lo ≤ b ∧ hi ≤ W.heap.size ∧ Nd W f.txt.length f lo hi b
theorem IsNode.below {W W' : World} {f : Fm} {lo b : Nat} (h : IsNode W f lo b) (hb : Below W.heap.size W W') : IsNode W' f lo b := by
  obtain ⟨hi, h0, h1, h2⟩ := h
  exact ⟨hi, h0, Nat.le_trans h1 hb.size, h2.below h1 hb⟩

/-- Kids that are being read in: a list of one's own of pointers. -/
def KidsIn (W : World) (base : Nat) (ks : List Fm) (sv : Value) : Prop :=
  (ks.length = 0 → sv = .slice none 0 0) ∧ ∃ ps : List Nat, ps.length = ks.length ∧ W.ownsRow base 52 1 sv ks.length (ps.map pNode) ∧
    ∀ i (h : i < ks.length) (h' : i < ps.length), ∃ kl kh, base ≤ kl ∧ kh ≤ W.heap.size ∧ Nd W (ks[i]).txt.length ks[i] kl kh ps[i] ∧ ∀ g, sv.ownBlock = some g → g < kl ∨ kh ≤ g
theorem ownsRow_keep {W W' : World} {base : Nat} {e : TypeId} {size : Nat} {v : Value} {n : Nat} {xs : List Value} (h : W.ownsRow base e size v n xs) (hb : ∀ g, v.ownBlock = some g → W'.heap[g]? = W.heap[g]?) : W'.ownsRow base e size v n xs := by
  obtain ⟨h1, h2 | ⟨g, cap, cur, e1, e2, e3, r⟩⟩ := h
  · exact ⟨h1, .inl h2⟩
  · exact ⟨h1, .inr ⟨g, cap, cur, e1, e2, (hb g (by rw [e1]; rfl)).trans e3, r⟩⟩
theorem ownsRow_at {W : World} {base : Nat} {e : TypeId} {size : Nat} {v : Value} {n : Nat} {xs : List Value} (h : W.ownsRow base e size v n xs) {g : Nat} (hg : v.ownBlock = some g) : base ≤ g ∧ g < W.heap.size := by
  obtain ⟨h1, ⟨e1, _⟩ | ⟨g', cap, cur, e1, e2, e3, r⟩⟩ := h
  · rw [e1] at hg; cases hg
  · rw [e1] at hg; cases hg; exact ⟨e2, (Array.getElem?_eq_some_iff.1 e3).1⟩
/-- What turns below nothing of the kids' and not their row. -/
theorem KidsIn.keep {W W' : World} {base : Nat} {ks : List Fm} {sv : Value} (h : KidsIn W base ks sv) (hs : W.heap.size ≤ W'.heap.size) (hb : ∀ g, base ≤ g → g < W.heap.size → W'.heap[g]? = W.heap[g]?) : KidsIn W' base ks sv := by
  obtain ⟨h0, ps, h1, h2, h3⟩ := h
  refine ⟨h0, ps, h1, ownsRow_keep h2 fun g hg => hb g (ownsRow_at h2 hg).1 (ownsRow_at h2 hg).2, fun i hi hi' => ?_⟩
  obtain ⟨kl, kh, c1, c2, c3, c4⟩ := h3 i hi hi'
  exact ⟨kl, kh, c1, by omega, Nd.frame _ _ _ _ _ (fun g g1 g2 => hb g (by omega) (by omega)) c3, c4⟩
theorem KidsIn.below {W W' : World} {base : Nat} {ks : List Fm} {sv : Value} (h : KidsIn W base ks sv) (hb : Below W.heap.size W W') : KidsIn W' base ks sv :=
  h.keep hb.size fun g _ hg => hb.block g hg
theorem KidsIn.nil (W : World) (base : Nat) : KidsIn W base [] (.slice none 0 0) := ⟨fun _ => rfl, [], rfl, ⟨rfl, .inl ⟨rfl, rfl⟩⟩, fun i h => by simp at h⟩
/-- One kid more. -/
theorem KidsIn.snoc {W W' : World} {base : Nat} {ks : List Fm} {sv : Value} {k : Fm} {kl b g' c' : Nat} (ps : List Nat) (h1 : ps.length = ks.length)
    (h3 : ∀ i (h : i < ks.length) (h' : i < ps.length), ∃ kl kh, base ≤ kl ∧ kh ≤ W.heap.size ∧ Nd W (ks[i]).txt.length ks[i] kl kh ps[i] ∧ ∀ g, sv.ownBlock = some g → g < kl ∨ kh ≤ g)
    (hN : Nd W k.txt.length k kl W.heap.size b) (hkl : base ≤ kl) (hsv : ∀ g, sv.ownBlock = some g → g < kl)
    (hown : W'.ownsRow base 52 1 (.slice (some ⟨g', 0, none⟩) (ks.length + 1) c') (ks.length + 1) (ps.map pNode ++ [pNode b])) (hs : W.heap.size ≤ W'.heap.size)
    (hgrow : ∀ g, g < W.heap.size → ¬ sv.ownBlock = some g → W'.heap[g]? = W.heap[g]?) (hg : sv.ownBlock = some g' ∨ W.heap.size ≤ g') :
    KidsIn W' base (ks ++ [k]) (.slice (some ⟨g', 0, none⟩) (ks.length + 1) c') := by
  refine ⟨fun h => by simp at h, ps ++ [b], by simp [h1], ?_, fun i hi hi' => ?_⟩
  · rw [List.map_append, List.length_append]
    exact hown
  · have hN2 : Nd W' k.txt.length k kl W.heap.size b := Nd.frame _ _ _ _ _ (fun g g1 g2 => hgrow g g2 (fun e => by have := hsv g e; omega)) hN
    by_cases hlt : i < ks.length
    · obtain ⟨kl', kh', c1, c2, c3, c4⟩ := h3 i hlt (by omega)
      refine ⟨kl', kh', c1, by omega, ?_, fun g eg => ?_⟩
      · rw [List.getElem_append_left hlt, List.getElem_append_left (by omega)]
        exact Nd.frame _ _ _ _ _ (fun g g1 g2 => hgrow g (by omega) (fun e => by rcases c4 g e with h | h <;> omega)) c3
      · cases eg
        rcases hg with h | h
        · exact c4 _ h
        · exact .inr (show kh' ≤ g' by omega)
    · obtain rfl : i = ks.length := by simp at hi; omega
      refine ⟨kl, W.heap.size, hkl, hs, ?_, fun g eg => ?_⟩
      · have e1 : (ks ++ [k])[ks.length] = k := by simp
        have e2 : (ps ++ [b])[ks.length] = b := by simp [← h1]
        rw [e1, e2]
        exact hN2
      · cases eg
        rcases hg with h | h
        · exact .inl (hsv _ h)
        · exact .inr (show W.heap.size ≤ g' by omega)
/-- The node is made. -/
theorem KidsIn.node {W : World} {ks : List Fm} {sv : Value} {b lo : Nat} {c : UInt8} (h3 : ks.length ≤ 3) (h : KidsIn W (b + 1) ks sv) (hlo : lo ≤ b) (hb : b < W.heap.size) (c0 : W.cell? ⟨b, 0, none⟩ = some (.string (mkF c ks).bytes)) (c1 : W.cell? ⟨b, 1, none⟩ = some (gV c)) (c2 : W.cell? ⟨b, 2, none⟩ = some sv) :
    IsNode W (mkF c ks) lo b := by
  refine ⟨W.heap.size, hlo, Nat.le_refl _, ?_⟩
  have hpos := (mkF c ks).txt_pos
  obtain ⟨n, hn⟩ : ∃ n, (mkF c ks).txt.length = n + 1 := ⟨(mkF c ks).txt.length - 1, by omega⟩
  rw [hn]
  refine ⟨hlo, hb, c0, by rw [mkF_head]; exact c1, sv, c2, ?_⟩
  rw [mkF_kids c h3]
  obtain ⟨h0', ps, h1, h2, h4⟩ := h
  have hkl : ∀ g ∈ ks, g.txt.length ≤ n := fun g hg => by
    have := Fm.kids_lt (f := mkF c ks) g (by rw [mkF_kids c h3]; exact hg)
    omega
  rcases h2.2 with ⟨e, h0⟩ | ⟨g, cap, cur, e, hg1, hg2, r⟩
  · exact .inl ⟨h0, e⟩
  · by_cases h0 : ks.length = 0
    · exact .inl ⟨h0, h0' h0⟩
    · refine .inr ⟨by omega, g, cap, e, by omega, (Array.getElem?_eq_some_iff.1 hg2).1, fun i hi => ?_⟩
      obtain ⟨kl, kh, d1, d2, d3, d4⟩ := h4 i hi (by omega)
      refine ⟨ps[i], kl, kh, ?_, by omega, d2, Nd.more _ _ _ _ _ _ (hkl _ (List.getElem_mem hi)) d3⟩
      rw [e] at h2
      have := World.ownsRow.cellAt h2 i (by omega)
      rw [this]
      simp [h1, hi]
end Go.Proofs.YtleighihfgabkaaDoor
