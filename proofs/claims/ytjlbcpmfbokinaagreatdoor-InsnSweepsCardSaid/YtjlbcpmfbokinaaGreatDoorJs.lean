/-
  Layer 2, contracts: encodeAll.
-/
import Derived.Test.YtjlbcpmfbokinaaGreatDoorJq
set_option linter.unusedSimpArgs false
set_option linter.unusedVariables false
namespace Go.Proofs.YtjlbcpmfbokinaaGreatDoor
open Go.RowKit Go.Shelf Go.WideMaps Go.Maps

/-- The number of a placed instruction; its code; the code of the first ones; none: an error. -/
def imP (A : As) (x : Pl) : Int := if x.nm.toList = [] then x.im else wrap64 (getL A.labs x.nm - x.nx)
def enS (A : As) (x : Pl) : Option (List UInt8) :=
  if x.nm.toList = [] ∨ hasL A.labs x.nm = true then (if okX x.op x.a x.b (imP A x) = true then some (enL x.op x.a x.b (imP A x)) else none) else none
def enK (A : As) : Nat → Option (List UInt8)
  | 0 => some []
  | k + 1 => (enK A k).bind fun c => (enS A (A.list.getD k ⟨0, 0, 0, 0, 0, 0, ⟨#[]⟩⟩)).bind fun b => some (c ++ b)
theorem enS_len {A : As} {x : Pl} {b : List UInt8} (h : enS A x = some b) : b.length ≤ 12 := by
  unfold enS at h
  split at h <;> try cases h
  split at h <;> rename_i hx <;> cases h
  have hk := (okX_parts hx).1
  rw [enL_len hk]
  exact (by decide : ∀ s : Fin 12, lenS s.1 ≤ 12) ⟨_, (rowO_sh hk).1⟩
theorem enK_len {A : As} : ∀ (k : Nat) {c : List UInt8}, enK A k = some c → c.length ≤ 12 * k
  | 0, c, h => by cases h; exact Nat.le_refl _
  | k + 1, c, h => by
    obtain ⟨c1, h1, h⟩ := Option.bind_eq_some_iff.1 h
    obtain ⟨b, h2, h⟩ := Option.bind_eq_some_iff.1 h
    cases h
    have := enK_len k h1
    have := enS_len h2
    rw [List.length_append]; omega
theorem enK_prefix {A : As} : ∀ (n : Nat) {c : List UInt8}, enK A n = some c → ∀ k, k ≤ n → ∃ c1, enK A k = some c1
  | 0, c, h, k, hk => by obtain rfl : k = 0 := by omega
                         exact ⟨c, h⟩
  | n + 1, c, h, k, hk => by
    by_cases e : k = n + 1
    · subst e; exact ⟨c, h⟩
    · obtain ⟨A1, h1, _⟩ := Option.bind_eq_some_iff.1 h
      exact enK_prefix n h1 k (by omega)
theorem flat7 {α β : Type} (f : α → List β) (sz : Nat) (hf : ∀ x, (f x).length = sz) : ∀ (l : List α) (k j : Nat) (hk : k < l.length), j < sz → (l.flatMap f)[k * sz + j]? = (f l[k])[j]?
  | [], k, j, hk, _ => by simp at hk
  | x :: l, 0, j, hk, hj => by
    rw [List.flatMap_cons, Nat.zero_mul, Nat.zero_add, List.getElem?_append_left (by rw [hf]; exact hj)]
    rfl
  | x :: l, k + 1, j, hk, hj => by
    rw [List.flatMap_cons, List.getElem?_append_right (by rw [hf, Nat.succ_mul]; omega), hf, show (k + 1) * sz + j - sz = k * sz + j by rw [Nat.succ_mul]; omega]
    exact flat7 f sz hf l k j (by simpa using hk) hj
/-- The cells of the k-th instruction. -/
theorem list_cells {W : World} {base : Nat} {v : Value} {L : List Pl} (h : W.ownsRow base 119 7 v L.length (L.flatMap plC)) {k : Nat} (hk : k < L.length) : ∃ g cap, v = .slice (some ⟨g, 0, none⟩) L.length cap ∧ ∀ j u, (plC L[k])[j]? = some u → W.cell? ⟨g, k * 7 + j, none⟩ = some u := by
  obtain ⟨q, c, rfl⟩ := own_sl h
  have hc := fun g (hg : (Value.slice q L.length c).ownBlock = some g) => h.cells hg
  rcases h.2 with ⟨he, hn⟩ | ⟨g, cap, cur, he, _⟩
  · omega
  · injection he with e1 e2 e3
    subst e1 e3
    refine ⟨g, c, rfl, fun j u hj => ?_⟩
    have hjl : j < 7 := by have := (List.getElem?_eq_some_iff.1 hj).1; simpa [plC] using this
    have := hc g rfl (k * 7 + j) u (by rw [flat7 plC 7 (fun x => rfl) L k j hk hjl]; exact hj)
    rw [Addr.add_lit] at this
    first | exact this | (rw [Nat.zero_add] at this; exact this)
set_option maxRecDepth 100000 in
theorem look_run {w : World} {p m : Nat} {A : As} (h : AB w p m A) (t : ByteArray) (ht : t.size ≤ maxLen) : (Instr.lookup 93 (.map (some m)) (.string t) true).run Tryz.prog w = .ok (.tuple #[.int .i64 (getL A.labs t), .bool (hasL A.labs t)]) w := by
  have hkey : keyOf Tryz.prog 9 (.string t) = some (.string t.data.toList) := keyOf_string_mk Tryz.underlying9 ht
  obtain ⟨v, ps, hrun, hv⟩ := h.mp.look_ok lawS Tryz.underlying93 (zero64 w) (zd := .lit (.int .i64 0)) (zp := []) (plainElem_int Tryz.underlying2 (by decide)) hkey
  obtain ⟨c, rfl, hc, _⟩ := plainElem_int_inv Tryz.underlying2 hv
  rw [lbD_has] at hrun
  have h1 := congrArg Prod.fst hc
  dsimp only at h1
  rw [lbD_at] at h1
  injection h1 with h1
  injection h1 with _ h1
  rw [h1]
  exact hrun
theorem bV_append (a b : List UInt8) : bV (a ++ b) = bV a ++ bV b := by simp [bV]
end Go.Proofs.YtjlbcpmfbokinaaGreatDoor
