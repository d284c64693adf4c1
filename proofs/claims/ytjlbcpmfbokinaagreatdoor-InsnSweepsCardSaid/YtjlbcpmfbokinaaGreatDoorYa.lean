/-
  Layer 3: how a space lies in memory.
-/
import Derived.Test.YtjlbcpmfbokinaaGreatDoorGA
import Derived.Test.YtjlbcpmfbokinaaGreatDoorMore
import Derived.Test.YtjlbcpmfbokinaaGreatDoorRows
set_option linter.unusedSimpArgs false
set_option linter.unusedVariables false
namespace Go.Proofs.YtjlbcpmfbokinaaGreatDoor
open Go.RowKit

theorem retI {k : IntKind} {a b : Int} (h : a = b) : Ending.returned (.int k a) = .returned (.int k b) := by rw [h]
theorem retB {a b : Bool} (h : a = b) : Ending.returned (.bool a) = .returned (.bool b) := by rw [h]

theorem lt_of_cell {W : World} {b o : Nat} {v : Value} (h : W.cell? ⟨b, o, none⟩ = some v) : b < W.heap.size := by
  rcases Nat.lt_or_ge b W.heap.size with h' | h'
  · exact h'
  · simp [World.cell?, Array.getElem?_eq_none h'] at h
theorem cell_up {B : Nat} {W W' : World} (g : Below B W W') {b o : Nat} {v : Value} (hb : b < B) (h : W.cell? ⟨b, o, none⟩ = some v) : W'.cell? ⟨b, o, none⟩ = some v := by
  rw [g.cell hb]; exact h

/-- The cells of a slice from its address on. -/
def SeqAt (w : World) (p : Option Addr) (xs : List Value) : Prop := xs = [] ∨ ∃ b o, p = some ⟨b, o, none⟩ ∧ ∀ j v, xs[j]? = some v → w.cell? ⟨b, o + j, none⟩ = some v
theorem SeqAt.up {W W' : World} (g : Below W.heap.size W W') {p : Option Addr} {xs : List Value} (h : SeqAt W p xs) : SeqAt W' p xs := by
  rcases h with h | ⟨b, o, hp, h⟩
  · exact .inl h
  · exact .inr ⟨b, o, hp, fun j v hj => cell_up g (lt_of_cell (h j v hj)) (h j v hj)⟩
/-- .. below a number. -/
theorem SeqAt.upB {B : Nat} {W W' : World} (g : Below B W W') {p : Option Addr} {xs : List Value} (h : SeqAt W p xs) (hp : ∀ b o, p = some ⟨b, o, none⟩ → xs ≠ [] → b < B) : SeqAt W' p xs := by
  rcases h with h | ⟨b, o, hp', h⟩
  · exact .inl h
  · refine .inr ⟨b, o, hp', fun j v hj => cell_up g (hp b o hp' ?_) (h j v hj)⟩
    rintro rfl; simp at hj

def iV (P : List Int) : List Value := P.map (Value.int .i64)
def bV (B : List UInt8) : List Value := B.map fun c => .int .u8 (c.toNat : Int)
theorem iV_get (P : List Int) (j : Nat) (h : j < P.length) : (iV P)[j]? = some (.int .i64 P[j]) := by simp [iV, h]
theorem bV_get (B : List UInt8) (j : Nat) (h : j < B.length) : (bV B)[j]? = some (.int .u8 (B[j].toNat : Int)) := by simp [bV, h]
theorem iV_len (P : List Int) : (iV P).length = P.length := by simp [iV]
theorem bV_len (B : List UInt8) : (bV B).length = B.length := by simp [bV]

/-- A space's value. -/
@[reducible] def spV (p : Option Addr) (n pc : Nat) (q : Option Addr) (m qc : Nat) : Value := .agg #[.slice p n pc, .slice q m qc]
/-- A fault's value. -/
@[reducible] def ftV (k a : Int) : Value := .agg #[.int .i64 k, .int .i64 a]

/-- A result that is a slice with such elements. -/
def OutS (w : World) (v : Value) (xs : List Value) : Prop := ∃ p c, v = .slice p xs.length c ∧ SeqAt w p xs
theorem OutS.up {W W' : World} (g : Below W.heap.size W W') {v : Value} {xs : List Value} (h : OutS W v xs) : OutS W' v xs := by
  obtain ⟨p, c, e, h⟩ := h; exact ⟨p, c, e, h.up g⟩
/-- A result that is a space. -/
def OutP (w : World) (v : Value) (P : List Int) (B : List UInt8) : Prop := ∃ p pc q qc, v = spV p P.length pc q B.length qc ∧ SeqAt w p (iV P) ∧ SeqAt w q (bV B)
theorem OutP.up {W W' : World} (g : Below W.heap.size W W') {v : Value} {P : List Int} {B : List UInt8} (h : OutP W v P B) : OutP W' v P B := by
  obtain ⟨p, pc, q, qc, e, h1, h2⟩ := h; exact ⟨p, pc, q, qc, e, h1.up g, h2.up g⟩
theorem OutS.of_own {w : World} {base : Nat} {e : TypeId} {v : Value} {n : Nat} {xs : List Value} (h : w.ownsRow base e 1 v n xs) : OutS w v xs := by
  have hl : xs.length = n := by simpa using h.1
  rcases h.2 with ⟨rfl, rfl⟩ | ⟨g, cap, cur, rfl, h2⟩
  · have : xs = [] := List.eq_nil_of_length_eq_zero hl
    subst this
    exact ⟨none, 0, rfl, .inl rfl⟩
  · refine ⟨_, cap, by rw [hl], .inr ⟨g, 0, rfl, fun j u hj => ?_⟩⟩
    have := h.cells (g := g) rfl j u hj
    rwa [Addr.add_lit] at this
end Go.Proofs.YtjlbcpmfbokinaaGreatDoor
