/-
  The texts DK0 in one.
-/
import Derived.Test.YtdgpjpcdifpllaaMPIsDesk3
import Derived.Deep.SlicePairs
import Derived.SizedLaws

/- DK0:
  A desk that came in, opened. -/
namespace Go.Proofs.Ytdgpjpcdifpllaa
open Go Go.RowKit Go.ChangeShapes Go.WideShapes
set_option linter.unusedVariables false
set_option linter.unusedSimpArgs false

theorem open_desk {H : Type} {enc : TypeId × Value → H} {P : Program} {W : World} {base b0 : Nat} {held : Bool} {r : Reach} {v : Value} {d : DataW H} {pl : List MemPlace} {t e : TypeId} {f0 f1 f2 g0 g1 k0 k1 q0 q1 : Field}
    (hs : P.underlying t = some (.struct #[f0, f1, f2])) (hC : P.cellsOf t = 5) (o0 : f0.offset = 0) (o1 : f1.offset = 2) (o2 : f2.offset = 3) (c0 : P.cellsOf f0.type = 2) (c1 : P.cellsOf f1.type = 1) (c2 : P.cellsOf f2.type = 2)
    (hg : P.underlying f0.type = some (.struct #[g0, g1])) (pg0 : g0.offset = 0) (pg1 : g1.offset = 1) (cg0 : P.cellsOf g0.type = 1) (cg1 : P.cellsOf g1.type = 1) (ig0 : P.underlying g0.type = some (.int .i64)) (ig1 : P.underlying g1.type = some (.int .i64))
    (hk : P.underlying f2.type = some (.struct #[k0, k1])) (pk0 : k0.offset = 0) (pk1 : k1.offset = 1) (ck0 : P.cellsOf k0.type = 1) (ck1 : P.cellsOf k1.type = 1) (ik0 : P.underlying k0.type = some (.int .i64)) (ik1 : P.underlying k1.type = some (.int .i64))
    (hf1 : P.underlying f1.type = some (.slice e)) (he : P.underlying e = some (.struct #[q0, q1])) (ce : P.cellsOf e = 2) (pq0 : q0.offset = 0) (pq1 : q1.offset = 1) (cq0 : P.cellsOf q0.type = 1) (cq1 : P.cellsOf q1.type = 1) (iq0 : P.underlying q0.type = some (.int .i64)) (iq1 : P.underlying q1.type = some (.int .i64))
    (hv : Value.okWide P W r b0 t v) (h : DataW.Trod enc P W base (fun _ => true) held t v d pl) :
    ∃ n x a len cap zs p u, v = .agg #[.int .i64 n, .int .i64 x, .slice a len cap, .int .i64 p, .int .i64 u] ∧ IsRowF W a len zs := by
  obtain ⟨cs, rfl, hsz⟩ := okWide_struct hs hv
  rw [hC] at hsz
  obtain ⟨fuel, hf⟩ := h
  obtain ⟨xs, m, _, _, _, hxl, hfd⟩ := DataW.trod_struct hs hf
  obtain ⟨l⟩ := cs
  match l, hsz, xs, hxl with
  | [v0, v1, v2, v3, v4], _, [y0, y1, y2], _ =>
    have a0 := hfd 0 f0 rfl
    have a1 := hfd 1 f1 rfl
    have a2 := hfd 2 f2 rfl
    simp [Value.cells, o0, c0] at a0
    simp [Value.cells, o1, c1] at a1
    simp [Value.cells, o2, c2] at a2
    obtain ⟨xs0, m0, _, _, _, hl0, hd0⟩ := DataW.trod_struct hg a0
    obtain ⟨xs2, m2, _, _, _, hl2, hd2⟩ := DataW.trod_struct hk a2
    match xs0, hl0, xs2, hl2 with
    | [z0, z1], _, [z2, z3], _ =>
      have r0 := hd0 0 g0 rfl
      have r1 := hd0 1 g1 rfl
      have r2 := hd2 0 k0 rfl
      have r3 := hd2 1 k1 rfl
      simp [pg0, cg0] at r0
      simp [pg1, cg1] at r1
      simp [pk0, ck0] at r2
      simp [pk1, ck1] at r3
      obtain ⟨n, e0, _, _⟩ := DataW.trod_int ig0 r0
      obtain ⟨x, e1, _, _⟩ := DataW.trod_int ig1 r1
      obtain ⟨p, e2, _, _⟩ := DataW.trod_int ik0 r2
      obtain ⟨u, e3, _, _⟩ := DataW.trod_int ik1 r3
      simp at e0 e1 e2 e3
      subst e0 e1 e2 e3
      obtain ⟨a, len, cap, zs, hv2, hrow⟩ : ∃ a len cap zs, v2 = .slice a len cap ∧ IsRowF W a len zs := by
        rcases Go.Deep.open_slice_pairs hf1 he ce pq0 pq1 cq0 cq1 a1 with ⟨hcs, _⟩ | ⟨b, l, c, m, n, V0, V1, D0, D1, P0, P1, hcs, _, hl, hm, hmm, _, hx⟩
        · simp at hcs
          subst hcs
          exact ⟨none, 0, 0, [], rfl, rfl, by omega, .inl rfl⟩
        · simp at hcs
          subst hcs
          have hlm : l ≤ m := by rw [hmm]; split <;> omega
          obtain ⟨zs, hz⟩ := isRowF_mk (w := W) (x := b) (len := l) (by unfold maxLen at hm; omega) fun j hj => by
            obtain ⟨e0, e1, t0, t1⟩ := hx j (by omega)
            obtain ⟨u0, g0, _, _⟩ := DataW.trod_int iq0 t0
            obtain ⟨u1, g1, _, _⟩ := DataW.trod_int iq1 t1
            simp at g0 g1
            rw [g0] at e0
            rw [g1] at e1
            exact ⟨(u0, u1), e0, e1⟩
          exact ⟨_, _, _, zs, rfl, hz⟩
      subst hv2
      exact ⟨n, x, a, len, cap, zs, p, u, rfl, hrow⟩
end Go.Proofs.Ytdgpjpcdifpllaa
