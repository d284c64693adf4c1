/-
  Layer 2: what Sweep answers.
-/
import Derived.Test.YtjlbcpmfbokinaaGreatDoorHf
import Derived.Test.YtjlbcpmfbokinaaGreatDoorJt
set_option linter.unusedSimpArgs false
set_option linter.unusedVariables false
namespace Go.Proofs.YtjlbcpmfbokinaaGreatDoor
open Go.RowKit

/-- The offsets of instructions, one behind the other; whether one is there; how many there are. -/
def ofS (b : List UInt8) : Nat → Nat
  | 0 => 0
  | k + 1 => ofS b k + nD (b.drop (ofS b k))
def okS (b : List UInt8) (k : Nat) : Bool := decide (ofS b k < b.length) && decide (eD (b.drop (ofS b k)) = 0)
def kS (b : List UInt8) : Nat := cnt (okS b) (b.length + 1)
/-- The first instructions are there. -/
def PreS (b : List UInt8) (k : Nat) : Prop := ∀ j, j < k → okS b j = true
theorem ofS_bd {b : List UInt8} : ∀ {k : Nat}, PreS b k → k ≤ ofS b k ∧ ofS b k ≤ b.length
  | 0, _ => ⟨Nat.le_refl _, Nat.zero_le _⟩
  | k + 1, h => by
    obtain ⟨h1, h2⟩ := ofS_bd (k := k) (fun j hj => h j (by omega))
    have h3 := h k (by omega)
    unfold okS at h3
    rw [Bool.and_eq_true] at h3
    have h4 := of_decide_eq_true h3.1
    have h5 := of_decide_eq_true h3.2
    have h6 := nD_le h5
    rw [List.length_drop] at h6
    show k + 1 ≤ ofS b k + nD (b.drop (ofS b k)) ∧ ofS b k + nD (b.drop (ofS b k)) ≤ b.length
    omega
theorem PreS.next {b : List UInt8} {k : Nat} (h : PreS b k) (h1 : ofS b k < b.length) (h2 : eD (b.drop (ofS b k)) = 0) : PreS b (k + 1) := fun j hj => by
  by_cases e : j = k
  · subst e; unfold okS; rw [decide_eq_true h1, decide_eq_true h2]; rfl
  · exact h j (by omega)
theorem kS_is {b : List UInt8} {k : Nat} (h : PreS b k) (hs : ¬ ofS b k < b.length ∨ eD (b.drop (ofS b k)) ≠ 0) : kS b = k := by
  have := ofS_bd h
  refine cnt_eq (by omega) h (fun _ => ?_)
  unfold okS
  rcases hs with hs | hs
  · rw [decide_eq_false hs]; rfl
  · rw [decide_eq_false hs, Bool.and_false]
/-- The error; how many instructions are answered. -/
def swE (b : List UInt8) : Int := if 2048 < b.length then 2 else if ofS b (kS b) < b.length then eD (b.drop (ofS b (kS b))) else 0
def swN (b : List UInt8) : Nat := if swE b = 0 then kS b else 0
theorem swE_long {b : List UInt8} (h : 2048 < b.length) : swE b = 2 ∧ swN b = 0 := by
  have e : swE b = 2 := if_pos h
  exact ⟨e, by unfold swN; rw [e]; rfl⟩
theorem swE_bad {b : List UInt8} (hl : ¬ 2048 < b.length) {k : Nat} (h : PreS b k) (h1 : ofS b k < b.length) (h2 : eD (b.drop (ofS b k)) ≠ 0) : swE b = eD (b.drop (ofS b k)) ∧ swN b = 0 := by
  have hk := kS_is h (.inr h2)
  have e : swE b = eD (b.drop (ofS b k)) := by unfold swE; rw [if_neg hl, hk, if_pos h1]
  exact ⟨e, by unfold swN; rw [e, if_neg h2]⟩
theorem swE_ok {b : List UInt8} (hl : ¬ 2048 < b.length) {k : Nat} (h : PreS b k) (h1 : ¬ ofS b k < b.length) : swE b = 0 ∧ swN b = k := by
  have hk := kS_is h (.inl h1)
  have e : swE b = 0 := by unfold swE; rw [if_neg hl, hk, if_neg h1]
  exact ⟨e, by unfold swN; rw [e, if_pos rfl, hk]⟩
/-- The cells of the first instructions; their offsets. -/
def inC (b : List UInt8) (j : Nat) : List Value := [.int .i64 (oD (b.drop (ofS b j))), .int .i64 (aD (b.drop (ofS b j))), .int .i64 (bD (b.drop (ofS b j))), .int .i64 (iD (b.drop (ofS b j)))]
def inR (b : List UInt8) (k : Nat) : List Value := (List.range k).flatMap (inC b)
def ofR (b : List UInt8) (k : Nat) : List Value := (List.range k).map fun j => .int .i64 (ofS b j : Int)
theorem inR_succ (b : List UInt8) (k : Nat) : inR b (k + 1) = inR b k ++ inC b k := by unfold inR; rw [List.range_succ]; simp
theorem ofR_succ (b : List UInt8) (k : Nat) : ofR b (k + 1) = ofR b k ++ [.int .i64 (ofS b k : Int)] := by unfold ofR; rw [List.range_succ]; simp
theorem seq_own {w : World} {base n c sz : Nat} {e : TypeId} {p : Option Addr} {xs : List Value} (h : w.ownsRow base e sz (.slice p n c) n xs) : SeqAt w p xs := by
  have hl : xs.length = n * sz := h.1
  rcases h.2 with ⟨hv, rfl⟩ | ⟨g, cap, cur, hv, h2⟩
  · have : xs = [] := List.eq_nil_of_length_eq_zero (by rw [hl]; simp)
    subst this
    exact .inl rfl
  · injection hv with h1 _ h3
    subst h1; subst h3
    refine .inr ⟨g, 0, rfl, fun j u hj => ?_⟩
    have := h.cells (g := g) rfl j u hj
    rwa [Addr.add_lit] at this
theorem seq_drop {W : World} {g o : Nat} {b : List UInt8} (h : SeqAt W (some ⟨g, o, none⟩) (bV b)) (n : Nat) (hn : n ≤ b.length) : SeqAt W (some ⟨g, o + n, none⟩) (bV (b.drop n)) := by
  rcases h with h | ⟨g', o', e, h⟩
  · have : b = [] := by simpa [bV] using h
    subst this
    exact .inl (by simp [bV])
  · cases e
    refine .inr ⟨g, o + n, rfl, fun j v hj => ?_⟩
    have := h (n + j) v (by
      unfold bV at hj ⊢
      rw [List.getElem?_map] at hj ⊢
      rw [List.getElem?_drop] at hj
      exact hj)
    rwa [show o + n + j = o + (n + j) by omega]
/-- What both answer: rows with these cells. -/
def SwA (b : List UInt8) (W : World) (u v : Value) : Prop := ∃ p c q d, u = .slice p (swN b) c ∧ v = .slice q (swN b) d ∧ SeqAt W p (inR b (swN b)) ∧ SeqAt W q (ofR b (swN b))
theorem SwA.nil {b : List UInt8} {W : World} (h : swN b = 0) : SwA b W (.slice none 0 0) (.slice none 0 0) := by
  refine ⟨none, 0, none, 0, by rw [h], by rw [h], ?_, ?_⟩
  · rw [h]; exact .inl rfl
  · rw [h]; exact .inl rfl
theorem SwA.row {b : List UInt8} {W : World} {u v : Value} {B k : Nat} {e1 e2 : TypeId} (h : swN b = k) (h1 : W.ownsRow B e1 4 u k (inR b k)) (h2 : W.ownsRow B e2 1 v k (ofR b k)) : SwA b W u v := by
  obtain ⟨p, c, rfl⟩ := own_sl h1
  obtain ⟨q, d, rfl⟩ := own_sl h2
  exact ⟨p, c, q, d, by rw [h], by rw [h], by rw [h]; exact seq_own h1, by rw [h]; exact seq_own h2⟩
theorem A_infoI : (Tryz.prog.info? 23).map (fun i => (i.zero, i.size, i.bytes)) = some (some (.agg #[.int .i64 0, .int .i64 0, .int .i64 0, .int .i64 0]), 4, 32) := by kernel_rfl
theorem A_infoN : (Tryz.prog.info? 3).map (fun i => (i.zero, i.size, i.bytes)) = some (some (.int .i64 0), 1, 8) := by kernel_rfl
theorem own_setS {w : World} {base sz : Nat} {e : TypeId} {v : Value} {n : Nat} {xs : List Value} (h : w.ownsRow base e sz v n xs) {b : Nat} (hb : b < base) (o : Nat) (u : Value) : (w.setCell ⟨b, o, none⟩ u).ownsRow base e sz v n xs := by
  obtain ⟨h1, h2⟩ := h
  refine ⟨h1, ?_⟩
  rcases h2 with h2 | ⟨gg, cap, cur, hv, hbg, hg, h3⟩
  · exact .inl h2
  · exact .inr ⟨gg, cap, cur, hv, hbg, (Below.heap_setCell _ _ _ _ (show gg ≠ b from by have : base ≤ gg := hbg; omega)).trans hg, h3⟩
end Go.Proofs.YtjlbcpmfbokinaaGreatDoor
