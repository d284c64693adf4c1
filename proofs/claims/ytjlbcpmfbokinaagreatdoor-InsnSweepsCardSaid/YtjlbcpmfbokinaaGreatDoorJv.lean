/-
  Layer 2, contracts: Assemble, of a text that is right.
-/
import Derived.Test.YtjlbcpmfbokinaaGreatDoorJt
import Derived.Test.YtjlbcpmfbokinaaGreatDoorJr
import Derived.Test.YtjlbcpmfbokinaaGreatDoorJu
import Derived.Test.YtjlbcpmfbokinaaGreatDoorJa
set_option linter.unusedSimpArgs false
set_option linter.unusedVariables false
namespace Go.Proofs.YtjlbcpmfbokinaaGreatDoor
open Go.RowKit Go.Shelf Go.WideMaps Go.Maps

theorem canStand_ok (n : Int) (h0 : 0 ≤ n) (h1 : n ≤ 1099511627776) (w : World) : Calls Tryz.prog 48 #[.int .i64 n] w fun e w' => e = .returned (.bool true) ∧ w = w' := by
  go_enter Tryz.func48, Tryz.ntmps48
  go_wp2_with fail
  go_ret
  exact ⟨rfl, rfl⟩
set_option maxRecDepth 100000 in
set_option maxHeartbeats 1000000 in
theorem asm1_ok {p m bt ba : Nat} {W : World} {A : As} {at0 : Int} (h : AB W p m (A0 at0)) (hT : ∀ W', Asm p m W W' → TB W') (t : ByteArray) (ht : t.size ≤ 20000) (h0 : 0 ≤ at0 ∧ at0 ≤ 1099511627776)
    (ct : W.cell? ⟨bt, 0, none⟩ = some (.string t)) (ca : W.cell? ⟨ba, 0, none⟩ = some (.int .i64 at0)) (hA : rdAll at0 t (lnN t) (A0 at0) = some A) (hnm : ∀ x ∈ A.list, x.nm.size ≤ maxLen) (hc : A.code = []) {cc : List UInt8} (hE : enK A A.list.length = some cc) :
    Calls Tryz.prog 49 #[.pointer (some ⟨p, 0, none⟩), .pointer (some ⟨bt, 0, none⟩), .pointer (some ⟨ba, 0, none⟩)] W fun e W' => e = .returned (.tuple #[]) ∧ (∃ n, AB W' p m { A with line := n, code := cc }) ∧ Asm p m W W' := by
  have hf := rdAll_fine _ hA
  have hn := lnN_le t
  have RA := readAll_ok h hT t ht h0 hA
  have EA := fun W' (g : AB W' p m A) (hs : Asm p m W W') => encodeAll_ok g (fun W2 h2 => hT W2 (hs.trans h2)) (by have := hf.ll; omega) hc hnm hE
  clear hA hE hnm hc hf hn h0 ht hT
  go_enter Tryz.func49, Tryz.ntmps49
  go_wp2_with first | (go_at_call 50; (refine RA.mono ?_); rintro e w1 ⟨rfl, hA1, hs1⟩) | (go_at_call 51; (refine (EA _ hA1 hs1).mono ?_); rintro e w2 ⟨rfl, hA2, hs2⟩)
  first | exact bodyPost_ret (results_none rfl _ _ _) rfl ⟨rfl, hA2, hs1.trans hs2⟩ | exact bodyPost_end (results_none rfl _ _ _) rfl ⟨rfl, hA2, hs1.trans hs2⟩
/-- A block that is no row's may change. -/
theorem AB.caught {W W' : World} {p m B : Nat} {A : As} (h : AB W p m A) {cs : Array Value} {T : TypeId} {fr : Nat × Nat} (hB : W.heap[B]? = some (.cells cs T fr)) (hT : rowT T = false) (hp : B ≠ p) (g : CaughtE B W W') : AB W' p m A := by
  have K : ∀ k o, W.heap[k]? = some o → k ≠ B → W'.heap[k]? = some o := fun k o hk hne => (g.other k (lt_heap hk) hne).trans hk
  have hpl := h.lt
  obtain ⟨c0, c1, ⟨v2, d2, o2⟩, c3, mp, ⟨v4, d4, o4⟩, ⟨v5, d5, o5⟩, f, lm⟩ := h
  have U : ∀ {o v}, W.cell? ⟨p, o, none⟩ = some v → W'.cell? ⟨p, o, none⟩ = some v := fun {o v} hc => (World.cell?_of_block (w := W) (g.other p hpl (fun e => hp e.symm))).trans hc
  have OW : ∀ {base sz : Nat} {e : TypeId} {v : Value} {n : Nat} {xs : List Value}, rowT e = true → W.ownsRow base e sz v n xs → W'.ownsRow base e sz v n xs := by
    intro base sz e v n xs he ho
    obtain ⟨h1, h2⟩ := ho
    refine ⟨h1, ?_⟩
    rcases h2 with h2 | ⟨gg, cap, cur, hv, hbg, hgg, h3⟩
    · exact .inl h2
    · refine .inr ⟨gg, cap, cur, hv, hbg, K _ _ hgg ?_, h3⟩
      intro e2
      subst e2
      rw [hB] at hgg
      simp at hgg
      rw [hgg.2.1] at hT
      rw [hT] at he
      cases he
  refine ⟨U c0, U c1, ⟨v2, U d2, OW (by decide) o2⟩, U c3, ?_, ⟨v4, U d4, OW (by decide) o4⟩, ⟨v5, U d5, OW (by decide) o5⟩, fun o => ?_, lm⟩
  · obtain ⟨es, clock, hb, h2⟩ := mp
    exact ⟨es, clock, K _ _ hb (by intro e; subst e; rw [hB] at hb; cases hb), h2⟩
  · exact (World.frozen?_of_block (w := W) (g.other p hpl (fun e => hp e.symm))).trans (f o)
/-- The assembler ahead of a text. -/
theorem AB.fresh (W : World) (at0 : Int) : AB ((W.alloc (.map #[] 0)).alloc (.cells #[.int .i64 0, .int .i64 at0, .slice none 0 0, .map (some W.heap.size), .slice none 0 0, .slice none 0 0] 96)) (W.heap.size + 1) W.heap.size (A0 at0) := by
  have hz : (W.alloc (.map #[] 0)).heap.size = W.heap.size + 1 := by simp
  refine ⟨by (first | (go_simp; done) | (go_simp; rfl)), by (first | (go_simp; done) | (go_simp; rfl)), ⟨_, by (first | (go_simp; done) | (go_simp; rfl)), World.ownsRow_nil _ _ _ _⟩, by go_simp, ?_, ⟨_, by (first | (go_simp; done) | (go_simp; rfl)), World.ownsRow_nil _ _ _ _⟩, ⟨_, by (first | (go_simp; done) | (go_simp; rfl)), World.ownsRow_nil _ _ _ _⟩, fun o => by rw [← hz]; go_simp, Nat.lt_succ_self _⟩
  exact (World.ownsMap_made W _ _ _).alloc _
end Go.Proofs.YtjlbcpmfbokinaaGreatDoor
