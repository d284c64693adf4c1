/-
  Layer 2, contracts: the assembler's box; labels.
-/
import Derived.Test.YtjlbcpmfbokinaaGreatDoorJf
import Derived.Maps.Own
import Derived.Maps.OwnSet
import Derived.Maps.Views
import Derived.StillTailTactics
import Derived.Deep.RegionLaw
set_option linter.unusedSimpArgs false
set_option linter.unusedVariables false
namespace Go.Proofs.YtjlbcpmfbokinaaGreatDoor
open Go.RowKit Go.Shelf Go.Maps

/-- A placed instruction; a symbol. -/
structure Pl where
  ln : Int
  nx : Int
  op : Int
  a : Int
  b : Int
  im : Int
  nm : ByteArray
structure Sy where
  nm : ByteArray
  pl : Int
/-- What is known of a text up to a line. -/
structure As where
  line : Int
  fin : Int
  list : List Pl
  labs : List (ByteArray × Int)
  syms : List Sy
  code : List UInt8
def plC (x : Pl) : List Value := [.int .i64 x.ln, .int .i64 x.nx, .int .i64 x.op, .int .i64 x.a, .int .i64 x.b, .int .i64 x.im, .string x.nm]
def syC (x : Sy) : List Value := [.string x.nm, .int .i64 x.pl, .int .i64 0]
/-- The labels as the map's datum. -/
def lbD : List (ByteArray × Int) → DataW Unit
  | [] => .map []
  | x :: l => (lbD l).put (.string x.1.data.toList) (.lit (.int .i64 x.2))
def hasL (l : List (ByteArray × Int)) (t : ByteArray) : Bool := l.any fun x => x.1.data.toList == t.data.toList
def getL : List (ByteArray × Int) → ByteArray → Int
  | [], _ => 0
  | x :: l, t => if x.1.data.toList = t.data.toList then x.2 else getL l t
theorem lbD_map : ∀ l, IsMap (lbD l)
  | [] => ⟨[], rfl⟩
  | x :: l => (lbD_map l).put _ _
theorem lbD_has (t : ByteArray) : ∀ l, has (lbD l) (.string t.data.toList) = hasL l t
  | [] => rfl
  | x :: l => by
    unfold lbD hasL
    rw [List.any_cons]
    by_cases h : x.1.data.toList = t.data.toList
    · rw [h, has_put_same (lbD_map l) (by trivial)]
      simp
    · rw [has_put_other (by intro e; injection e with e; exact h e.symm), lbD_has t l, beq_eq_false_iff_ne.2 h]
      rfl
theorem lbD_at (t : ByteArray) : ∀ l, (lbD l).atKey (.string t.data.toList) (.lit (.int .i64 0)) = .lit (.int .i64 (getL l t))
  | [] => rfl
  | x :: l => by
    unfold lbD getL
    by_cases h : x.1.data.toList = t.data.toList
    · rw [h, atKey_put_same (lbD_map l) (by trivial), if_pos rfl]
    · rw [atKey_put_other (by intro e; injection e with e; exact h e.symm), lbD_at t l, if_neg h]

/-- The assembler lies in the box p, its labels in the map m. -/
structure AB (W : World) (p m : Nat) (A : As) : Prop where
  c0 : W.cell? ⟨p, 0, none⟩ = some (.int .i64 A.line)
  c1 : W.cell? ⟨p, 1, none⟩ = some (.int .i64 A.fin)
  c2 : ∃ v, W.cell? ⟨p, 2, none⟩ = some v ∧ W.ownsRow (p + 1) 119 7 v A.list.length (A.list.flatMap plC)
  c3 : W.cell? ⟨p, 3, none⟩ = some (.map (some m))
  mp : W.ownsMap Tryz.prog 9 (plainElem Tryz.prog 2) m A.labs.length (lbD A.labs)
  c4 : ∃ v, W.cell? ⟨p, 4, none⟩ = some v ∧ W.ownsRow (p + 1) 64 3 v A.syms.length (A.syms.flatMap syC)
  c5 : ∃ v, W.cell? ⟨p, 5, none⟩ = some v ∧ W.ownsRow (p + 1) 5 1 v A.code.length (bV A.code)
  fz : ∀ o, W.frozen? ⟨p, o, none⟩ = false
  lm : m < p
theorem AB.lt {W : World} {p m : Nat} {A : As} (h : AB W p m A) : p < W.heap.size := lt_of_cell h.c0
theorem own_belowS {w w' : World} {base sz : Nat} {e : TypeId} {v : Value} {n : Nat} {xs : List Value} (h : w.ownsRow base e sz v n xs) (g : Below w.heap.size w w') : w'.ownsRow base e sz v n xs := own_below h g
theorem map_below {w w' : World} {b n : Nat} {D : DataW Unit} {P : Program} {k : TypeId} {R : Value → Option (DataW Unit × List MemPlace)} (h : w.ownsMap P k R b n D) (g : Below w.heap.size w w') : w'.ownsMap P k R b n D := by
  obtain ⟨es, clock, hb, h2⟩ := h
  exact ⟨es, clock, (g.block b (lt_heap hb)).trans hb, h2⟩
theorem AB.up {W W' : World} {p m : Nat} {A : As} (h : AB W p m A) (g : Below W.heap.size W W') : AB W' p m A := by
  obtain ⟨v2, d2, o2⟩ := h.c2
  obtain ⟨v4, d4, o4⟩ := h.c4
  obtain ⟨v5, d5, o5⟩ := h.c5
  exact ⟨cell_up g h.lt h.c0, cell_up g h.lt h.c1, ⟨v2, cell_up g h.lt d2, own_belowS o2 g⟩, cell_up g h.lt h.c3, map_below h.mp g, ⟨v4, cell_up g h.lt d4, own_belowS o4 g⟩, ⟨v5, cell_up g h.lt d5, own_belowS o5 g⟩,
    fun o => (g.frozen (p := ⟨p, o, none⟩) h.lt).trans (h.fz o), h.lm⟩
/-- The types of the assembler's rows. -/
def rowT (T : TypeId) : Bool := T == 119 || T == 64 || T == 5
/-- Below the box nothing but the map has changed; nor has what is no row, anywhere. -/
structure Asm (p m : Nat) (W W' : World) : Prop where
  os : W'.os = W.os
  tape : W'.tape = W.tape
  output : W'.output = W.output
  size : W.heap.size ≤ W'.heap.size
  other : ∀ k, k < p → k ≠ m → W'.heap[k]? = W.heap[k]?
  typed : ∀ k o, W.heap[k]? = some o → k ≠ p → k ≠ m → (∀ cs T fr, o = .cells cs T fr → rowT T = false) → W'.heap[k]? = some o
theorem Asm.refl (p m : Nat) (W : World) : Asm p m W W := ⟨rfl, rfl, rfl, Nat.le_refl _, fun _ _ _ => rfl, fun _ _ h _ _ _ => h⟩
theorem Asm.trans {p m : Nat} {W W1 W2 : World} (h : Asm p m W W1) (g : Asm p m W1 W2) : Asm p m W W2 :=
  ⟨g.os.trans h.os, g.tape.trans h.tape, g.output.trans h.output, Nat.le_trans h.size g.size, fun k hk hne => (g.other k hk hne).trans (h.other k hk hne),
   fun k o hc hk hm hT => g.typed k o (h.typed k o hc hk hm hT) hk hm hT⟩
theorem Asm.below {p m : Nat} {W W' : World} (h : Below W.heap.size W W') (hp : p ≤ W.heap.size) : Asm p m W W' := ⟨h.os, h.tape, h.output, h.size, fun k hk _ => h.block k (by omega), fun k o hc _ _ _ => (h.block k (lt_heap hc)).trans hc⟩
theorem Asm.set (p m : Nat) (W : World) (o : Nat) (v : Value) : Asm p m W (W.setCell ⟨p, o, none⟩ v) :=
  ⟨rfl, rfl, rfl, by rw [World.size_setCell]; exact Nat.le_refl _, fun k hk _ => Below.heap_setCell _ _ _ _ (by dsimp only; omega), fun k _ hc hk _ _ => (Below.heap_setCell _ _ _ _ hk).trans hc⟩
theorem Asm.grown {p m : Nat} {W W' : World} {row : Option Nat} (h : W.grownBy W' row) (hp : p ≤ W.heap.size) (hr : ∀ k, row = some k → p ≤ k ∨ k = m) (hty : ∀ k o, row = some k → W.heap[k]? = some o → k = m ∨ ∃ cs T fr, o = .cells cs T fr ∧ rowT T = true) : Asm p m W W' :=
  ⟨h.os, h.tape, h.output, h.size, fun k hk hne => h.block k (by omega) (fun e => by have := hr k e.symm; omega),
   fun k o hc _ hm hT => (h.block k (lt_heap hc) (fun e => by
     rcases hty k o e.symm hc with h1 | ⟨cs, T, fr, h1, h2⟩
     · exact hm h1
     · have := hT cs T fr h1
       rw [h2] at this; cases this)).trans hc⟩
theorem map_ty {w : World} {m : Nat} : ∀ k o, some m = some k → w.heap[k]? = some o → k = m ∨ ∃ cs T fr, o = .cells cs T fr ∧ rowT T = true := by
  intro k o e _
  injection e with e
  exact .inl e.symm
theorem own_ty {w : World} {base sz m : Nat} {e : TypeId} {v : Value} {n : Nat} {xs : List Value} (h : w.ownsRow base e sz v n xs) (he : rowT e = true) : ∀ k o, v.ownBlock = some k → w.heap[k]? = some o → k = m ∨ ∃ cs T fr, o = .cells cs T fr ∧ rowT T = true := by
  intro k o hk hc
  obtain ⟨_, ⟨rfl, _⟩ | ⟨gg, cap, cur, rfl, _, hgg, _⟩⟩ := h
  · simp [Value.ownBlock] at hk
  · simp [Value.ownBlock] at hk
    subst hk
    rw [hgg] at hc
    injection hc with hc
    exact .inr ⟨_, _, _, hc.symm, he⟩
end Go.Proofs.YtjlbcpmfbokinaaGreatDoor
