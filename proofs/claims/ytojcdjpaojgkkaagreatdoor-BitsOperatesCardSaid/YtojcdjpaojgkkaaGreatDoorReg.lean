/-
  Regions of a body as theorems of their own: the region by its number, and facts of memory that a grown world keeps.
-/
import Derived.Test.YtojcdjpaojgkkaaGreatDoorLd
namespace Go.Proofs.YtojcdjpaojgkkaaGreatDoor
open Go.RowKit

/-- A region of a body, by its number. -/
def Code.findR (k : Nat) : Code → Option Code
  | .region id ops b => if id = k then some (.region id ops b) else none
  | .seq a b => match Code.findR k a with
    | some c => some c
    | none => Code.findR k b
  | .cond _ a b => match Code.findR k a with
    | some c => some c
    | none => Code.findR k b
  | .block _ c => Code.findR k c
  | .loop c => Code.findR k c
  | .scope c => Code.findR k c
  | _ => none

theorem szc {W : World} {b o : Nat} {v : Value} (h : W.cell? ⟨b, o, none⟩ = some v) : b < W.heap.size := by
  rcases Nat.lt_or_ge b W.heap.size with h' | h'
  · exact h'
  · simp [World.cell?, Array.getElem?_eq_none h'] at h
/-- A cell is kept. -/
theorem grC {W W' : World} (g : Gr W.heap.size W W') {b o : Nat} {v : Value} (h : W.cell? ⟨b, o, none⟩ = some v) : W'.cell? ⟨b, o, none⟩ = some v := by
  rw [g.below.cell (szc h)]
  exact h
theorem grT {B : Nat} {a b c : World} (h : Gr B a b) (k : Gr b.heap.size b c) (hB : B ≤ b.heap.size) : Gr B a c :=
  ⟨h.below.trans (k.below.mono hB), Nat.le_trans hB k.size⟩
theorem PI.up {W W' : World} (g : Gr W.heap.size W W') (h : PI W) : PI W' := by
  obtain ⟨p0, p1, hz⟩ := h
  exact ⟨grC g p0, grC g p1, Nat.lt_of_lt_of_le hz g.size⟩
/-- A box that holds a type; an array of two, of three numbers. -/
structure BoxT (W : World) (b : Nat) (s : Int) (g : Bool) : Prop where
  x : W.cell? ⟨b, 0, none⟩ = some (.int .i64 s)
  y : W.cell? ⟨b, 1, none⟩ = some (.bool g)
structure Box2 (W : World) (b : Nat) (i j : Int) : Prop where
  c0 : W.cell? ⟨b, 0, none⟩ = some (.int .i64 i)
  c1 : W.cell? ⟨b, 1, none⟩ = some (.int .i64 j)
structure Box3 (W : World) (b : Nat) (i j k : Int) : Prop where
  c0 : W.cell? ⟨b, 0, none⟩ = some (.int .i64 i)
  c1 : W.cell? ⟨b, 1, none⟩ = some (.int .i64 j)
  c2 : W.cell? ⟨b, 2, none⟩ = some (.int .i64 k)
theorem BoxT.up {W W' : World} (gr : Gr W.heap.size W W') {b : Nat} {s : Int} {g : Bool} (h : BoxT W b s g) : BoxT W' b s g := ⟨grC gr h.x, grC gr h.y⟩
theorem Box2.up {W W' : World} (gr : Gr W.heap.size W W') {b : Nat} {i j : Int} (h : Box2 W b i j) : Box2 W' b i j := ⟨grC gr h.c0, grC gr h.c1⟩
theorem Box3.up {W W' : World} (gr : Gr W.heap.size W W') {b : Nat} {i j k : Int} (h : Box3 W b i j k) : Box3 W' b i j k := ⟨grC gr h.c0, grC gr h.c1, grC gr h.c2⟩
end Go.Proofs.YtojcdjpaojgkkaaGreatDoor
