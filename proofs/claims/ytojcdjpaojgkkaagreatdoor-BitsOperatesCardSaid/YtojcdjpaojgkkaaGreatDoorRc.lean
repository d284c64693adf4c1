/-
  What the rows share, continued: the reference's variable; an array of two numbers of type int.
-/
import Derived.Test.YtojcdjpaojgkkaaGreatDoorRa
import Derived.Test.YtojcdjpaojgkkaaGreatDoorRb
import Derived.Test.YtojcdjpaojgkkaaGreatDoorLs
namespace Go.Proofs.YtojcdjpaojgkkaaGreatDoor
set_option maxRecDepth 100000
open Go.ChangeShapes Go.WideShapes Go.ChangeAt Go.WideElems Go.RowKit Go.Joins

theorem gPR : Tryz.prog.globalNamed "tapline/taplineref01.promoted" = some 1 := by kernel_rfl
theorem tPR : (Tryz.prog.globals[1]?).map (·.type) = some 88 := by kernel_rfl
theorem cells_int : Tryz.prog.cellsOf 3 = 1 := by kernel_rfl
theorem cells_bool : Tryz.prog.cellsOf 4 = 1 := by kernel_rfl

/-- A type in two cells. -/
theorem two_cells {W : World} {m : Nat} {cs : List Value} {s : Int} {g : Bool} {p : List MemPlace} (h : DataW.trod (fun _ => ()) Tryz.prog W 0 (fun _ => true) false m 23 cs = some (.agg [.lit (.int .i64 s), .lit (.bool g)], p)) : cs = [.int .i64 s, .bool g] := by
  obtain ⟨y0, y1, n, hx, hl, h0, h1⟩ := trod_struct2 Tryz.underlying23 h
  simp only [Prod.mk.injEq, DataW.agg.injEq, List.cons.injEq, and_true] at hx
  obtain ⟨k0, a0, b0, _⟩ := DataW.trod_int Tryz.underlying3 h0
  obtain ⟨k1, a1, b1⟩ := DataW.trod_bool Tryz.underlying4 h1
  have hk0 : k0 = s := by rw [b0] at hx; simpa using hx.1.1.symm
  have hk1 : k1 = g := by rw [b1] at hx; simpa using hx.1.2.symm
  subst hk0 hk1
  rw [cells_Int] at hl
  match cs, hl, a0, a1 with
  | [x0, x1], _, a0, a1 =>
    simp [cells_int] at a0
    simp [cells_bool] at a1
    subst a0 a1
    rfl

/-- The reference's variable holds its four types. -/
theorem of_prom {W : World} {l : List (String × DataW Unit)} {q : List MemPlace} (h : DataW.LaidVars Tryz.prog W (("tapline/taplineref01.promoted", Rows.laid_tapline_taplineref01_promoted) :: l) q) : PR W := by
  obtain ⟨g0, t0, cs0, f0, p0, q0, hg0, ht0, hv0, hd0, _⟩ := h
  obtain rfl := Option.some.inj (gPR.symm.trans hg0)
  obtain rfl := Option.some.inj (tPR.symm.trans ht0)
  obtain ⟨xs, m, _, hx, hl, hn, hel⟩ := DataW.trod_array Tryz.underlying88 hd0
  match xs, hn with
  | [x0, x1, x2, x3], _ =>
    have h0 := hel 0 (by decide)
    rw [cells_Int] at h0
    obtain ⟨d0, z0⟩ := x0
    simp only [Rows.laid_tapline_taplineref01_promoted, Prod.mk.injEq, DataW.agg.injEq, List.map_cons, List.cons.injEq] at hx
    obtain ⟨⟨e0, _⟩, _⟩ := hx
    subst e0
    have r0 := two_cells (show DataW.trod _ _ _ _ _ _ m _ _ = some (_, z0) from h0)
    rw [show Tryz.prog.cellsOf 88 = 8 by kernel_rfl] at hl
    obtain ⟨l0⟩ := cs0
    match l0, hl, r0 with
    | [c0, c1, c2, c3, c4, c5, c6, c7], _, r0 =>
      simp at r0
      obtain ⟨rfl, rfl⟩ := r0
      have e0 := World.var?_cell hg0 hv0 0
      have e1 := World.var?_cell hg0 hv0 1
      simp at e0 e1
      exact ⟨e0, e1⟩

end Go.Proofs.YtojcdjpaojgkkaaGreatDoor
