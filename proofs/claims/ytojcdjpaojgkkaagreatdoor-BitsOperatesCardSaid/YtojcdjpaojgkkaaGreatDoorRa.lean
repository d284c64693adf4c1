/-
  What the rows share: what the listed variables give the walks, and how a row is shut.
-/
import Derived.Test.YtojcdjpaojgkkaaGreatDoorPd
import Derived.Test.YtojcdjpaojgkkaaGreatDoorRows
import Derived.ProofKit
import Derived.LaidMore
import Derived.OpenShut
import Derived.Stop.Joined
import Derived.Lib.SmallJoins
namespace Go.Proofs.YtojcdjpaojgkkaaGreatDoor
set_option maxRecDepth 100000
open Go.ChangeShapes Go.WideShapes Go.ChangeAt Go.WideElems Go.RowKit Go.Joins

theorem Tryz.own' : ownKnob Tryz.prog.godebug = none := by kernel_rfl
theorem Tryz.laidOut' : laidOutB Tryz.prog = true := by kernel_rfl
theorem gPI : Tryz.prog.globalNamed "tapline/bits.plainInt" = some 0 := by kernel_rfl
theorem gES : Tryz.prog.globalNamed "strconv.ErrSyntax" = some 2 := by kernel_rfl
theorem gER : Tryz.prog.globalNamed "strconv.ErrRange" = some 3 := by kernel_rfl
theorem tPI : (Tryz.prog.globals[0]?).map (·.type) = some 23 := by kernel_rfl
theorem tES : (Tryz.prog.globals[2]?).map (·.type) = some 92 := by kernel_rfl
theorem tER : (Tryz.prog.globals[3]?).map (·.type) = some 92 := by kernel_rfl
theorem cells_Int : Tryz.prog.cellsOf 23 = 2 := by kernel_rfl

theorem iface_cell {W : World} {d : DataW Unit} {name : String} {cs : Array Value} {fuel : Nat} {p : List MemPlace} (h : DataW.trod (fun _ => ()) Tryz.prog W 0 (fun _ => true) false fuel 92 cs.toList = some (.iface name d, p)) :
    ∃ u v, cs[0]? = some (.iface u v) := by
  obtain ⟨_, u, v, e, _⟩ := iface_of_trod Tryz.underlying92 h
  obtain ⟨l⟩ := cs
  simp at e
  subst e
  exact ⟨u, v, rfl⟩

theorem size_of_cell {W : World} {b o : Nat} {v : Value} (h : W.cell? ⟨b, o, none⟩ = some v) : b < W.heap.size := by
  rcases Nat.lt_or_ge b W.heap.size with h' | h'
  · exact h'
  · simp [World.cell?, Array.getElem?_eq_none h'] at h

/-- The last three of a list: ErrRange, ErrSyntax, plainInt. -/
theorem of_last3 {W : World} {q : List MemPlace} (h : DataW.LaidVars Tryz.prog W [("strconv.ErrRange", Rows.laid_strconv_ErrRange), ("strconv.ErrSyntax", Rows.laid_strconv_ErrSyntax), ("tapline/bits.plainInt", Rows.laid_tapline_bits_plainInt)] q) : PI W ∧ EV W := by
  obtain ⟨g0, t0, cs0, f0, p0, q0, hg0, ht0, hv0, hd0, ⟨g1, t1, cs1, f1, p1, q1, hg1, ht1, hv1, hd1, ⟨g2, t2, cs2, f2, p2, q2, hg2, ht2, hv2, hd2, _, _⟩, _⟩, _⟩ := h
  obtain rfl := Option.some.inj (gER.symm.trans hg0)
  obtain rfl := Option.some.inj (gES.symm.trans hg1)
  obtain rfl := Option.some.inj (gPI.symm.trans hg2)
  obtain rfl := Option.some.inj (tER.symm.trans ht0)
  obtain rfl := Option.some.inj (tES.symm.trans ht1)
  obtain rfl := Option.some.inj (tPI.symm.trans ht2)
  obtain ⟨u0, v0, e0⟩ := iface_cell hd0
  obtain ⟨u1, v1, e1⟩ := iface_cell hd1
  have c0 := World.var?_cell hg0 hv0 0
  have c1 := World.var?_cell hg1 hv1 0
  rw [e0] at c0; rw [e1] at c1
  obtain ⟨y0, y1, n, hx, hl, h0, h1⟩ := trod_struct2 Tryz.underlying23 hd2
  simp only [Rows.laid_tapline_bits_plainInt, Prod.mk.injEq, DataW.agg.injEq, List.cons.injEq, and_true] at hx
  obtain ⟨k0, a0, b0, _⟩ := DataW.trod_int Tryz.underlying3 h0
  obtain ⟨k1, a1, b1⟩ := DataW.trod_bool Tryz.underlying4 h1
  have hk0 : k0 = 4 := by rw [b0] at hx; simpa using hx.1.1.symm
  have hk1 : k1 = true := by rw [b1] at hx; simpa using hx.1.2.symm
  subst hk0 hk1
  rw [cells_Int] at hl
  obtain ⟨l2⟩ := cs2
  match l2, hl, a0, a1 with
  | [x0, x1], _, a0, a1 =>
    have z3 : Tryz.prog.cellsOf 3 = 1 := by kernel_rfl
    have z4 : Tryz.prog.cellsOf 4 = 1 := by kernel_rfl
    simp [z3] at a0
    simp [z4] at a1
    subst a0 a1
    have d0 := World.var?_cell hg2 hv2 0
    have d1 := World.var?_cell hg2 hv2 1
    simp at d0 d1
    exact ⟨⟨d0, d1, size_of_cell d0⟩, ⟨⟨_, c1, .inr ⟨_, _, rfl⟩⟩, ⟨_, c0, .inr ⟨_, _, rfl⟩⟩, size_of_cell c0⟩⟩

theorem laidVars_tail {W : World} {x : String × DataW Unit} {l : List (String × DataW Unit)} {q : List MemPlace} (h : DataW.LaidVars Tryz.prog W (x :: l) q) : ∃ q', DataW.LaidVars Tryz.prog W l q' := by
  obtain ⟨n, d⟩ := x
  obtain ⟨_, _, _, _, _, q', _, _, _, _, h', _⟩ := h
  exact ⟨q', h'⟩

/-- An argument that is an integer type. -/
theorem open_Int {H : Type} {enc : TypeId × Value → H} {W : World} {base : Nat} {v : Value} {d : DataW H} {p : List MemPlace} (hv : Value.okWide Tryz.prog W .any base 23 v) (h : DataW.Trod enc Tryz.prog W 0 (fun _ => true) true 23 v d p) : ∃ s g, v = tyV s g := by
  obtain ⟨c0, c1, y0, y1, m, rfl, rfl, rfl, hy0, hy1⟩ := open_agg2 Tryz.underlying23 (by kernel_rfl) cells_Int hv h
  obtain ⟨a, e0, _, _⟩ := DataW.trod_int Tryz.underlying3 hy0
  obtain ⟨b, e1, _⟩ := DataW.trod_bool Tryz.underlying4 hy1
  simp at e0 e1
  subst e0 e1
  exact ⟨a, b, rfl⟩

theorem ok_Int : Tryz.prog.readableRec 23 = true := by kernel_rfl
theorem row_Int : 23 < Tryz.prog.types.size := of_decide_eq_true (by kernel_rfl)
end Go.Proofs.YtojcdjpaojgkkaaGreatDoor
