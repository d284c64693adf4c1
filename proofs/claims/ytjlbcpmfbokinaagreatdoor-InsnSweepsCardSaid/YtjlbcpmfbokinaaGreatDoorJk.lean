/-
  Layer 2, contracts: define.
-/
import Derived.Test.YtjlbcpmfbokinaaGreatDoorJj
set_option linter.unusedSimpArgs false
set_option linter.unusedVariables false
namespace Go.Proofs.YtjlbcpmfbokinaaGreatDoor
open Go.RowKit Go.Shelf Go.WideMaps Go.Maps

theorem lawS : Keyed Tryz.prog 9 := string_keyed Tryz.underlying9
theorem zero64 (w : World) : (zeroValue 2).run Tryz.prog w = .ok (.int .i64 0) w := by kernel_rfl
theorem own_grownS {w w' : World} {row : Option Nat} (hg : w.grownBy w' row) {base sz : Nat} {e : TypeId} {v : Value} {n : Nat} {xs : List Value} (h : w.ownsRow base e sz v n xs) (hne : ∀ g, v.ownBlock = some g → some g ≠ row) : w'.ownsRow base e sz v n xs := by
  obtain ⟨h1, h2⟩ := h
  refine ⟨h1, ?_⟩
  rcases h2 with h2 | ⟨gg, cap, cur, hv, hbg, hgg, h3⟩
  · exact .inl h2
  · exact .inr ⟨gg, cap, cur, hv, hbg, (hg.block gg (lt_heap hgg) (hne gg (by rw [hv]; rfl))).trans hgg, h3⟩
theorem own_ge {w : World} {base sz : Nat} {e : TypeId} {v : Value} {n : Nat} {xs : List Value} (h : w.ownsRow base e sz v n xs) {g : Nat} (hg : v.ownBlock = some g) : base ≤ g ∧ g < w.heap.size := by
  obtain ⟨_, ⟨rfl, _⟩ | ⟨gg, cap, cur, rfl, hbg, hgg, _⟩⟩ := h
  · simp [Value.ownBlock] at hg
  · simp [Value.ownBlock] at hg
    subst hg
    exact ⟨hbg, lt_heap hgg⟩
/-- The map has grown. -/
theorem AB.labeled {W W' : World} {p m : Nat} {A : As} (h : AB W p m A) (g : W.grownBy W' (some m)) {l : List (ByteArray × Int)} (hm : W'.ownsMap Tryz.prog 9 (plainElem Tryz.prog 2) m l.length (lbD l)) : AB W' p m { A with labs := l } := by
  have hp : p < W.heap.size := h.lt
  have lm := h.lm
  have U : ∀ {o v}, W.cell? ⟨p, o, none⟩ = some v → W'.cell? ⟨p, o, none⟩ = some v := fun {o v} hc => (World.cell?_of_block (w := W) (g.block p hp (by intro e; injection e with e; omega))).trans hc
  obtain ⟨v2, d2, o2⟩ := h.c2
  obtain ⟨v4, d4, o4⟩ := h.c4
  obtain ⟨v5, d5, o5⟩ := h.c5
  refine ⟨U h.c0, U h.c1, ⟨v2, U d2, own_grownS g o2 (fun k hk e => ?_)⟩, U h.c3, hm, ⟨v4, U d4, own_grownS g o4 (fun k hk e => ?_)⟩, ⟨v5, U d5, own_grownS g o5 (fun k hk e => ?_)⟩, fun o => ?_, lm⟩
  · have := (own_ge o2 hk).1; injection e with e; omega
  · have := (own_ge o4 hk).1; injection e with e; omega
  · have := (own_ge o5 hk).1; injection e with e; omega
  · exact (World.frozen?_of_block (w := W) (g.block p hp (by intro e; injection e with e; omega))).trans (h.fz o)
theorem grown_drewN {w w' : World} {row : Option Nat} (n : Nat) (h : (w.drewN n).grownBy w' row) : w.grownBy w' row := ⟨h.os, h.tape, h.output, h.size, h.block⟩
set_option maxRecDepth 100000 in
set_option maxHeartbeats 1000000 in
theorem define_ok {p m : Nat} {W : World} {A : As} (h : AB W p m A) (t : ByteArray) (ht : t.size ≤ maxLen) (hn : hasL A.labs t = false) (hl : A.labs.length < maxLen) (hf : (Lit.int .i64 A.fin).wf = true) :
    Calls Tryz.prog 88 #[.pointer (some ⟨p, 0, none⟩), .string t] W fun e W' => e = .returned (.tuple #[]) ∧ AB W' p m { A with labs := (t, A.fin) :: A.labs } ∧ W.grownBy W' (some m) := by
  have c1 := h.c1
  have c3 := h.c3
  have HR := fun W => require_ok 23 W
  have hkey : keyOf Tryz.prog 9 (.string t) = some (.string t.data.toList) := keyOf_string_mk Tryz.underlying9 ht
  have HH := Lib.hid (lbD_has t A.labs)
  have HN := Lib.hid hn
  clear hn
  go_enter Tryz.func88, Tryz.ntmps88
  go_upto_region 1 with (at_lookup; refine wpList_lookup_own_ok_int _ rfl _ _ 93 rfl 9 2 .i64 lawS Tryz.underlying93 Tryz.underlying2 (zero64 _) m _ _ rfl h.mp _ _ rfl hkey ?_; intro c hat hwc; rw [HH.out, HN.out])
  go_upto_region 2 with (go_at_call 70; (refine (HR _).mono ?_); rintro e w1 ⟨rfl, rfl⟩)
  have hval : plainElem (H := Unit) Tryz.prog 2 (.int .i64 A.fin) = some (.lit (.int .i64 A.fin), []) := plainElem_int Tryz.underlying2 hf
  go_still_tail 9, (by kernel_rfl)
  change wpList _ _ _ _ _ W.drew
  refine wpList_mapUpdate_own _ rfl _ _ _ 93 rfl 9 2 lawS Tryz.underlying93 _ m A.labs.length (lbD A.labs) rfl h.mp.drew hl _ _ _ rfl rfl hkey _ [] hval ?_
  intro w1 hown1 hgrow1
  have hg : W.grownBy w1 (some m) := grown_drewN 1 hgrow1
  have hAB := h.labeled hg (l := (t, A.fin) :: A.labs) hown1
  clear hown1 hgrow1 c1 c3 hval hkey
  go_wp2_with fail
  first | exact bodyPost_ret (results_none rfl _ _ _) rfl ⟨rfl, hAB, hg⟩ | exact bodyPost_end (results_none rfl _ _ _) rfl ⟨rfl, hAB, hg⟩
end Go.Proofs.YtjlbcpmfbokinaaGreatDoor
