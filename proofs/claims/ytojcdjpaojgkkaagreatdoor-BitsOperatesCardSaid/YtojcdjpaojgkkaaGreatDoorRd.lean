/-
  What the rows share, continued: the reference's variable, all of it.
-/
import Derived.Test.YtojcdjpaojgkkaaGreatDoorRc
import Derived.Test.YtojcdjpaojgkkaaGreatDoorUa
namespace Go.Proofs.YtojcdjpaojgkkaaGreatDoor
set_option maxRecDepth 100000
open Go.ChangeShapes Go.WideShapes Go.ChangeAt Go.WideElems Go.RowKit Go.Joins

/-- The reference's variable holds its four types. -/
theorem of_prom8 {W : World} {l : List (String × DataW Unit)} {q : List MemPlace} (h : DataW.LaidVars Tryz.prog W (("tapline/taplineref01.promoted", Rows.laid_tapline_taplineref01_promoted) :: l) q) : PR8 W := by
  obtain ⟨g0, t0, cs0, f0, p0, q0, hg0, ht0, hv0, hd0, _⟩ := h
  obtain rfl := Option.some.inj (gPR.symm.trans hg0)
  obtain rfl := Option.some.inj (tPR.symm.trans ht0)
  obtain ⟨xs, m, _, hx, hl, hn, hel⟩ := DataW.trod_array Tryz.underlying88 hd0
  match xs, hn with
  | [x0, x1, x2, x3], _ =>
    have h0 := hel 0 (by decide); have h1 := hel 1 (by decide); have h2 := hel 2 (by decide); have h3 := hel 3 (by decide)
    rw [cells_Int] at h0 h1 h2 h3
    obtain ⟨d0, z0⟩ := x0; obtain ⟨d1, z1⟩ := x1; obtain ⟨d2, z2⟩ := x2; obtain ⟨d3, z3⟩ := x3
    simp only [Rows.laid_tapline_taplineref01_promoted, Prod.mk.injEq, DataW.agg.injEq, List.map_cons, List.map_nil, List.cons.injEq, and_true] at hx
    obtain ⟨⟨e0, e1, e2, e3⟩, _⟩ := hx
    subst e0 e1 e2 e3
    have r0 := two_cells (show DataW.trod _ _ _ _ _ _ m _ _ = some (_, z0) from h0)
    have r1 := two_cells (show DataW.trod _ _ _ _ _ _ m _ _ = some (_, z1) from h1)
    have r2 := two_cells (show DataW.trod _ _ _ _ _ _ m _ _ = some (_, z2) from h2)
    have r3 := two_cells (show DataW.trod _ _ _ _ _ _ m _ _ = some (_, z3) from h3)
    rw [show Tryz.prog.cellsOf 88 = 8 by kernel_rfl] at hl
    obtain ⟨l0⟩ := cs0
    match l0, hl, r0, r1, r2, r3 with
    | [c0, c1, c2, c3, c4, c5, c6, c7], _, r0, r1, r2, r3 =>
      simp at r0 r1 r2 r3
      obtain ⟨rfl, rfl⟩ := r0
      obtain ⟨rfl, rfl⟩ := r1
      obtain ⟨rfl, rfl⟩ := r2
      obtain ⟨rfl, rfl⟩ := r3
      have e0 := World.var?_cell hg0 hv0 0
      have e1 := World.var?_cell hg0 hv0 1
      have e2 := World.var?_cell hg0 hv0 2
      have e3 := World.var?_cell hg0 hv0 3
      have e4 := World.var?_cell hg0 hv0 4
      have e5 := World.var?_cell hg0 hv0 5
      have e6 := World.var?_cell hg0 hv0 6
      have e7 := World.var?_cell hg0 hv0 7
      simp at e0 e1 e2 e3 e4 e5 e6 e7
      exact ⟨e0, e1, e2, e3, e4, e5, e6, e7⟩

end Go.Proofs.YtojcdjpaojgkkaaGreatDoor
