/-
  Contracts of layer 1: Bytes, FromBytes.
-/
import Derived.Test.YtojcdjpaojgkkaaGreatDoorBk2
import Derived.Test.YtojcdjpaojgkkaaGreatDoorReg
import Derived.Lib.ConvBytes
namespace Go.Proofs.YtojcdjpaojgkkaaGreatDoor
open Go.RowKit

/-- The bytes of a block. -/
def BS (W : World) (b : Nat) (l : List UInt8) : Prop := ∀ (j : Nat) (h : j < l.length), W.cell? ⟨b, j, none⟩ = some (.int .u8 (l[j].toNat : Int))
theorem BS.up {W W' : World} (gr : Gr W.heap.size W W') {b : Nat} {l : List UInt8} (h : BS W b l) : BS W' b l := fun j hj => grC gr (h j hj)

/-- The bytes of a block, the first K of a value's, the others zero. -/
def BZ (W : World) (b : Nat) (v : Int) (n K : Nat) : Prop := ∀ j : Nat, j < n → W.cell? ⟨b, j, none⟩ = some (.int .u8 (if j < K then ((btV v j).toNat : Int) else 0)) ∧ W.frozen? ⟨b, j, none⟩ = false
theorem bz_step {W : World} {b : Nat} {v : Int} {n K : Nat} (h : BZ W b v n K) (hk : K < n) (h7 : K ≤ 7) : BZ (W.setCell ⟨b, K, none⟩ (.int .u8 (IntKind.u8.wrap (v / 2 ^ (8 * (K : Int)).toNat)))) b v n (K + 1) := by
  intro j hj
  obtain ⟨hc, hf⟩ := h j hj
  refine ⟨?_, by rw [World.frozen?_setCell]; exact hf⟩
  by_cases e : j = K
  · subst e
    rw [World.cell?_setCell_same (h := hc), byte_of v j h7, if_pos (by omega)]
  · have hne : (⟨b, K, none⟩ : Addr) ≠ ⟨b, j, none⟩ := by intro h; injection h; omega
    rw [World.cell?_setCell_other (h := hne), hc]
    by_cases h1 : j < K
    · rw [if_pos h1, if_pos (by omega)]
    · rw [if_neg h1, if_neg (by omega)]
theorem bs_of_bz {W : World} {b : Nat} {v : Int} {n : Nat} (h : BZ W b v n n) : BS W b (btL v n) := by
  intro j hj
  have hj' : j < n := by simpa [btL] using hj
  rw [(h j hj').1, if_pos hj', btL_get]
end Go.Proofs.YtojcdjpaojgkkaaGreatDoor
