/-
  The reference of layer 3: Access, Peek, Load, Fetch (made by genkj.py).
  The reference of layer 3: Fetched, Fetch (made by genkk.py).
  The reference of layer 3: String (made by genkl.py).
  The law MemReads (made by genkm.py).
-/
import Derived.Test.YtnapbpfofpaakaaGK
import Derived.Test.YtnapbpfofpaakaaGA
import Derived.Test.YtnapbpfofpaakaaGD
namespace Go.Proofs.Ytnapbpfofpaakaa
open Go.RowKit

section
variable (P : List Int) (B : List UInt8)
def RAcc (at0 n m K A E : Int) : Prop := ∀ w p pc q qc, SpAt w P p B q qc → Calls Try.prog 29 #[spV p P.length pc q B.length qc, .int .i64 at0, .int .i64 n, .int .i64 m] w fun e w' => e = .returned (.agg #[.int .i64 K, .int .i64 A, .int .i64 E]) ∧ Below w.heap.size w w'
def RLoad (at0 s : Int) (g : Bool) (V K A E : Int) : Prop := ∀ w p pc q qc, SpAt w P p B q qc → Calls Try.prog 36 #[spV p P.length pc q B.length qc, .int .i64 at0, tyV s g] w fun e w' => e = .returned (.agg #[.int .i64 V, .int .i64 K, .int .i64 A, .int .i64 E]) ∧ Below w.heap.size w w'
def RPeek (at0 n : Int) (X : List UInt8) (K A E : Int) : Prop := ∀ w p pc q qc, SpAt w P p B q qc → Calls Try.prog 31 #[spV p P.length pc q B.length qc, .int .i64 at0, .int .i64 n] w fun e w' => ∃ v, e = .returned (.agg #[v, .int .i64 K, .int .i64 A, .int .i64 E]) ∧ SqVal w.heap.size w' v X ∧ Below w.heap.size w w'
def RFetch (at0 n : Int) (X : List UInt8) (E : Int) : Prop := ∀ w p pc q qc, SpAt w P p B q qc → Calls Try.prog 30 #[spV p P.length pc q B.length qc, .int .i64 at0, .int .i64 n] w fun e w' => ∃ v, e = .returned (.agg #[v, .int .i64 0, .int .i64 0, .int .i64 E]) ∧ SqVal w.heap.size w' v X ∧ Below w.heap.size w w'
end
theorem SqVal.of {lo lo' : Nat} {W W' : World} {v : Value} {X : List UInt8} (h : SqVal lo W v X) (g : SqVal lo W v X → SqVal lo W' v X) (hl : lo' ≤ lo) : SqVal lo' W' v X := by
  obtain ⟨p, c, h1, h2⟩ := g h
  exact ⟨p, c, h1, h2.mono hl (Nat.le_refl _)⟩
theorem sq_of_own {base : Nat} {w : World} {e : TypeId} {v : Value} {X : List UInt8} {n : Nat} (hn : X.length = n) (h : w.ownsRow base e 1 v n (bV X)) : SqVal base w v X := by
  subst hn
  obtain ⟨q, c, rfl⟩ := own_sl h
  exact ⟨q, c, rfl, (SeqFar.own h).1.in⟩
theorem SqVal.set {lo : Nat} {W : World} {v : Value} {X : List UInt8} (h : SqVal lo W v X) {b o : Nat} (hb : b < lo) (u : Value) : SqVal lo (W.setCell ⟨b, o, none⟩ u) v X := by
  obtain ⟨p, c, h1, h2⟩ := h
  refine ⟨p, c, h1, ?_⟩
  rcases h2 with h2 | ⟨b', o', e, l1, l2, h2⟩
  · exact .inl h2
  · exact .inr ⟨b', o', e, l1, by simpa using l2, fun j v hj => by rw [World.cell?_setCell_far _ _ _ _ (by dsimp only; omega)]; exact h2 j v hj⟩
theorem SqVal.al {lo : Nat} {W : World} {v : Value} {X : List UInt8} (h : SqVal lo W v X) (o : Obj) : SqVal lo (W.alloc o) v X := h.up (Gr.alloc (Gr.refl _) _)
theorem SqVal.mo {lo : Nat} {W : World} {v : Value} {X : List UInt8} (h : SqVal lo W v X) (os : Array Obj) (n : Nat) : SqVal lo (W.more os n) v X := h.up (Gr.more (Gr.refl _) _ _)

set_option maxRecDepth 100000 in
set_option maxHeartbeats 2000000 in
theorem rAcc_bad {P : List Int} {B : List UInt8} (hs : spB P B.length = false) (at0 n m : Int) : RAcc P B at0 n m 0 0 30 := by
  intro w p pc q qc h
  have C1 : ∀ W, Below w.heap.size w W → Calls Try.prog 22 #[spV p P.length pc q B.length qc] W fun e w' => e = .returned (.int .i64 (spE P B.length)) ∧ Below W.heap.size W w' := fun W g => rcheck3_any P p pc q B.length qc W (h.perm.up g)
  rw [spE_bad hs] at C1
  clear h hs
  go_enter Try.func29, Try.ntmps29
  go_wp2_with (go_at_call 22; (refine (C1 _ (Gr.below (by repeat (first | (with_reducible exact Gr.refl _) | with_reducible refine Gr.alloc ?_ _ | with_reducible refine Gr.more ?_ _ _ | with_reducible refine Gr.setCell ?_ (by dsimp only; omega) _ | with_reducible refine Gr.drew ?_)))).mono ?_); rintro e w1 ⟨rfl, hb⟩; obtain ⟨os, n', rfl⟩ := Below.moreE hb; clear hb)
  refine bodyPost_ret (v := .agg #[.int .i64 0, .int .i64 0, .int .i64 30]) (by simp [results, go_sem, *]) rfl ?_
  exact ⟨rfl, (Gr.below (by repeat (first | (with_reducible exact Gr.refl _) | with_reducible refine Gr.alloc ?_ _ | with_reducible refine Gr.more ?_ _ _ | with_reducible refine Gr.setCell ?_ (by dsimp only; omega) _ | with_reducible refine Gr.drew ?_)))⟩

set_option maxRecDepth 100000 in
set_option maxHeartbeats 2000000 in
theorem rAcc_lo {P : List Int} {B : List UInt8} (hs : spB P B.length = true) (at0 n m : Int) (hn : n < 0) : RAcc P B at0 n m 0 0 1 := by
  intro w p pc q qc h
  have C1 : ∀ W, Below w.heap.size w W → Calls Try.prog 22 #[spV p P.length pc q B.length qc] W fun e w' => e = .returned (.int .i64 (spE P B.length)) ∧ Below W.heap.size W w' := fun W g => rcheck3_any P p pc q B.length qc W (h.perm.up g)
  rw [spE_ok hs] at C1
  clear h hs
  go_enter Try.func29, Try.ntmps29
  go_wp2_with (go_at_call 22; (refine (C1 _ (Gr.below (by repeat (first | (with_reducible exact Gr.refl _) | with_reducible refine Gr.alloc ?_ _ | with_reducible refine Gr.more ?_ _ _ | with_reducible refine Gr.setCell ?_ (by dsimp only; omega) _ | with_reducible refine Gr.drew ?_)))).mono ?_); rintro e w1 ⟨rfl, hb⟩; obtain ⟨os, n', rfl⟩ := Below.moreE hb; clear hb)
  refine bodyPost_ret (v := .agg #[.int .i64 0, .int .i64 0, .int .i64 1]) (by simp [results, go_sem, *]) rfl ?_
  exact ⟨rfl, (Gr.below (by repeat (first | (with_reducible exact Gr.refl _) | with_reducible refine Gr.alloc ?_ _ | with_reducible refine Gr.more ?_ _ _ | with_reducible refine Gr.setCell ?_ (by dsimp only; omega) _ | with_reducible refine Gr.drew ?_)))⟩

set_option maxRecDepth 100000 in
set_option maxHeartbeats 2000000 in
theorem rAcc_hi {P : List Int} {B : List UInt8} (hs : spB P B.length = true) (at0 n m : Int) (hn : 2048 < n) : RAcc P B at0 n m 0 0 1 := by
  intro w p pc q qc h
  have C1 : ∀ W, Below w.heap.size w W → Calls Try.prog 22 #[spV p P.length pc q B.length qc] W fun e w' => e = .returned (.int .i64 (spE P B.length)) ∧ Below W.heap.size W w' := fun W g => rcheck3_any P p pc q B.length qc W (h.perm.up g)
  rw [spE_ok hs] at C1
  have hn0 : ¬ n < 0 := by omega
  clear h hs
  go_enter Try.func29, Try.ntmps29
  go_wp2_with (go_at_call 22; (refine (C1 _ (Gr.below (by repeat (first | (with_reducible exact Gr.refl _) | with_reducible refine Gr.alloc ?_ _ | with_reducible refine Gr.more ?_ _ _ | with_reducible refine Gr.setCell ?_ (by dsimp only; omega) _ | with_reducible refine Gr.drew ?_)))).mono ?_); rintro e w1 ⟨rfl, hb⟩; obtain ⟨os, n', rfl⟩ := Below.moreE hb; clear hb)
  refine bodyPost_ret (v := .agg #[.int .i64 0, .int .i64 0, .int .i64 1]) (by simp [results, go_sem, *]) rfl ?_
  exact ⟨rfl, (Gr.below (by repeat (first | (with_reducible exact Gr.refl _) | with_reducible refine Gr.alloc ?_ _ | with_reducible refine Gr.more ?_ _ _ | with_reducible refine Gr.setCell ?_ (by dsimp only; omega) _ | with_reducible refine Gr.drew ?_)))⟩

set_option maxRecDepth 100000 in
set_option maxHeartbeats 2000000 in
theorem rAcc_perm {P : List Int} {B : List UInt8} (hs : spB P B.length = true) (at0 n m : Int) (h0 : ¬ n < 0) (h1 : ¬ 2048 < n) (m1 : (m != 1) = true) (m2 : (m != 2) = true) (m4 : (m != 4) = true) : RAcc P B at0 n m 0 0 1 := by
  intro w p pc q qc h
  have C1 : ∀ W, Below w.heap.size w W → Calls Try.prog 22 #[spV p P.length pc q B.length qc] W fun e w' => e = .returned (.int .i64 (spE P B.length)) ∧ Below W.heap.size W w' := fun W g => rcheck3_any P p pc q B.length qc W (h.perm.up g)
  rw [spE_ok hs] at C1
  clear h hs
  go_enter Try.func29, Try.ntmps29
  go_wp2_with (go_at_call 22; (refine (C1 _ (Gr.below (by repeat (first | (with_reducible exact Gr.refl _) | with_reducible refine Gr.alloc ?_ _ | with_reducible refine Gr.more ?_ _ _ | with_reducible refine Gr.setCell ?_ (by dsimp only; omega) _ | with_reducible refine Gr.drew ?_)))).mono ?_); rintro e w1 ⟨rfl, hb⟩; obtain ⟨os, n', rfl⟩ := Below.moreE hb; clear hb)
  refine bodyPost_ret (v := .agg #[.int .i64 0, .int .i64 0, .int .i64 1]) (by simp [results, go_sem, *]) rfl ?_
  exact ⟨rfl, (Gr.below (by repeat (first | (with_reducible exact Gr.refl _) | with_reducible refine Gr.alloc ?_ _ | with_reducible refine Gr.more ?_ _ _ | with_reducible refine Gr.setCell ?_ (by dsimp only; omega) _ | with_reducible refine Gr.drew ?_)))⟩

set_option maxRecDepth 100000 in
set_option maxHeartbeats 2000000 in
theorem rAcc_1 {P : List Int} {B : List UInt8} (hs : spB P B.length = true) (at0 : Int) (n : Nat) (hn : n ≤ 2048) : RAcc P B at0 n 1 (fltK P 1 at0 n) (fltA P 1 at0 n) 0 := by
  intro w p pc q qc h
  have C1 : ∀ W, Below w.heap.size w W → Calls Try.prog 22 #[spV p P.length pc q B.length qc] W fun e w' => e = .returned (.int .i64 (spE P B.length)) ∧ Below W.heap.size W w' := fun W g => rcheck3_any P p pc q B.length qc W (h.perm.up g)
  rw [spE_ok hs] at C1
  have FF : ∀ W, Below w.heap.size w W → Calls Try.prog 61 #[spV p P.length pc q B.length qc, .int .i64 at0, .int .i64 (n : Int), .int .i64 1] W fun e w' => e = .returned (ftV (fltK P 1 at0 n) (fltA P 1 at0 n)) ∧ Below W.heap.size W w' := fun W g => rfault_any P p pc B q qc at0 n 1 (by decide) W (h.perm.up g) hs hn
  generalize fltK P 1 at0 n = K at *
  generalize fltA P 1 at0 n = A at *
  have h0 : (n : Int) ≤ 2048 := by omega
  clear h hs hn
  go_enter Try.func29, Try.ntmps29
  go_wp2_with first | (go_at_call 22; (refine (C1 _ (Gr.below (by repeat (first | (with_reducible exact Gr.refl _) | with_reducible refine Gr.alloc ?_ _ | with_reducible refine Gr.more ?_ _ _ | with_reducible refine Gr.setCell ?_ (by dsimp only; omega) _ | with_reducible refine Gr.drew ?_)))).mono ?_); rintro e w1 ⟨rfl, hb⟩; obtain ⟨os, n', rfl⟩ := Below.moreE hb; clear hb) | (go_at_call 61; (refine (FF _ (Gr.below (by repeat (first | (with_reducible exact Gr.refl _) | with_reducible refine Gr.alloc ?_ _ | with_reducible refine Gr.more ?_ _ _ | with_reducible refine Gr.setCell ?_ (by dsimp only; omega) _ | with_reducible refine Gr.drew ?_)))).mono ?_); rintro e w1 ⟨rfl, hb⟩; obtain ⟨os, n', rfl⟩ := Below.moreE hb; clear hb)
  refine bodyPost_ret (v := .agg #[.int .i64 K, .int .i64 A, .int .i64 0]) (by simp [results, go_sem, *]) rfl ?_
  exact ⟨rfl, (Gr.below (by repeat (first | (with_reducible exact Gr.refl _) | with_reducible refine Gr.alloc ?_ _ | with_reducible refine Gr.more ?_ _ _ | with_reducible refine Gr.setCell ?_ (by dsimp only; omega) _ | with_reducible refine Gr.drew ?_)))⟩

set_option maxRecDepth 100000 in
set_option maxHeartbeats 2000000 in
theorem rAcc_2 {P : List Int} {B : List UInt8} (hs : spB P B.length = true) (at0 : Int) (n : Nat) (hn : n ≤ 2048) : RAcc P B at0 n 2 (fltK P 2 at0 n) (fltA P 2 at0 n) 0 := by
  intro w p pc q qc h
  have C1 : ∀ W, Below w.heap.size w W → Calls Try.prog 22 #[spV p P.length pc q B.length qc] W fun e w' => e = .returned (.int .i64 (spE P B.length)) ∧ Below W.heap.size W w' := fun W g => rcheck3_any P p pc q B.length qc W (h.perm.up g)
  rw [spE_ok hs] at C1
  have FF : ∀ W, Below w.heap.size w W → Calls Try.prog 61 #[spV p P.length pc q B.length qc, .int .i64 at0, .int .i64 (n : Int), .int .i64 2] W fun e w' => e = .returned (ftV (fltK P 2 at0 n) (fltA P 2 at0 n)) ∧ Below W.heap.size W w' := fun W g => rfault_any P p pc B q qc at0 n 2 (by decide) W (h.perm.up g) hs hn
  generalize fltK P 2 at0 n = K at *
  generalize fltA P 2 at0 n = A at *
  have h0 : (n : Int) ≤ 2048 := by omega
  clear h hs hn
  go_enter Try.func29, Try.ntmps29
  go_wp2_with first | (go_at_call 22; (refine (C1 _ (Gr.below (by repeat (first | (with_reducible exact Gr.refl _) | with_reducible refine Gr.alloc ?_ _ | with_reducible refine Gr.more ?_ _ _ | with_reducible refine Gr.setCell ?_ (by dsimp only; omega) _ | with_reducible refine Gr.drew ?_)))).mono ?_); rintro e w1 ⟨rfl, hb⟩; obtain ⟨os, n', rfl⟩ := Below.moreE hb; clear hb) | (go_at_call 61; (refine (FF _ (Gr.below (by repeat (first | (with_reducible exact Gr.refl _) | with_reducible refine Gr.alloc ?_ _ | with_reducible refine Gr.more ?_ _ _ | with_reducible refine Gr.setCell ?_ (by dsimp only; omega) _ | with_reducible refine Gr.drew ?_)))).mono ?_); rintro e w1 ⟨rfl, hb⟩; obtain ⟨os, n', rfl⟩ := Below.moreE hb; clear hb)
  refine bodyPost_ret (v := .agg #[.int .i64 K, .int .i64 A, .int .i64 0]) (by simp [results, go_sem, *]) rfl ?_
  exact ⟨rfl, (Gr.below (by repeat (first | (with_reducible exact Gr.refl _) | with_reducible refine Gr.alloc ?_ _ | with_reducible refine Gr.more ?_ _ _ | with_reducible refine Gr.setCell ?_ (by dsimp only; omega) _ | with_reducible refine Gr.drew ?_)))⟩

set_option maxRecDepth 100000 in
set_option maxHeartbeats 2000000 in
theorem rAcc_4 {P : List Int} {B : List UInt8} (hs : spB P B.length = true) (at0 : Int) (n : Nat) (hn : n ≤ 2048) : RAcc P B at0 n 4 (fltK P 4 at0 n) (fltA P 4 at0 n) 0 := by
  intro w p pc q qc h
  have C1 : ∀ W, Below w.heap.size w W → Calls Try.prog 22 #[spV p P.length pc q B.length qc] W fun e w' => e = .returned (.int .i64 (spE P B.length)) ∧ Below W.heap.size W w' := fun W g => rcheck3_any P p pc q B.length qc W (h.perm.up g)
  rw [spE_ok hs] at C1
  have FF : ∀ W, Below w.heap.size w W → Calls Try.prog 61 #[spV p P.length pc q B.length qc, .int .i64 at0, .int .i64 (n : Int), .int .i64 4] W fun e w' => e = .returned (ftV (fltK P 4 at0 n) (fltA P 4 at0 n)) ∧ Below W.heap.size W w' := fun W g => rfault_any P p pc B q qc at0 n 4 (by decide) W (h.perm.up g) hs hn
  generalize fltK P 4 at0 n = K at *
  generalize fltA P 4 at0 n = A at *
  have h0 : (n : Int) ≤ 2048 := by omega
  clear h hs hn
  go_enter Try.func29, Try.ntmps29
  go_wp2_with first | (go_at_call 22; (refine (C1 _ (Gr.below (by repeat (first | (with_reducible exact Gr.refl _) | with_reducible refine Gr.alloc ?_ _ | with_reducible refine Gr.more ?_ _ _ | with_reducible refine Gr.setCell ?_ (by dsimp only; omega) _ | with_reducible refine Gr.drew ?_)))).mono ?_); rintro e w1 ⟨rfl, hb⟩; obtain ⟨os, n', rfl⟩ := Below.moreE hb; clear hb) | (go_at_call 61; (refine (FF _ (Gr.below (by repeat (first | (with_reducible exact Gr.refl _) | with_reducible refine Gr.alloc ?_ _ | with_reducible refine Gr.more ?_ _ _ | with_reducible refine Gr.setCell ?_ (by dsimp only; omega) _ | with_reducible refine Gr.drew ?_)))).mono ?_); rintro e w1 ⟨rfl, hb⟩; obtain ⟨os, n', rfl⟩ := Below.moreE hb; clear hb)
  refine bodyPost_ret (v := .agg #[.int .i64 K, .int .i64 A, .int .i64 0]) (by simp [results, go_sem, *]) rfl ?_
  exact ⟨rfl, (Gr.below (by repeat (first | (with_reducible exact Gr.refl _) | with_reducible refine Gr.alloc ?_ _ | with_reducible refine Gr.more ?_ _ _ | with_reducible refine Gr.setCell ?_ (by dsimp only; omega) _ | with_reducible refine Gr.drew ?_)))⟩

theorem rAcc_arg {P : List Int} {B : List UInt8} (hs : spB P B.length = true) (at0 n m : Int) (hn : n < 0 ∨ 2048 < n ∨ (m ≠ 1 ∧ m ≠ 2 ∧ m ≠ 4)) : RAcc P B at0 n m 0 0 1 := by
  by_cases h0 : n < 0
  · exact rAcc_lo hs at0 n m h0
  by_cases h1 : 2048 < n
  · exact rAcc_hi hs at0 n m h1
  have h2 : m ≠ 1 ∧ m ≠ 2 ∧ m ≠ 4 := by rcases hn with a | a | a <;> first | exact a | omega
  exact rAcc_perm hs at0 n m h0 h1 (bne_iff_ne.2 h2.1) (bne_iff_ne.2 h2.2.1) (bne_iff_ne.2 h2.2.2)
theorem rAcc_ok {P : List Int} {B : List UInt8} (hs : spB P B.length = true) (at0 : Int) {n : Int} {k : Nat} (hk : n = k) (hn : k ≤ 2048) {m : Int} (hm : m = 1 ∨ m = 2 ∨ m = 4) : RAcc P B at0 n m (fltK P m at0 k) (fltA P m at0 k) 0 := by
  subst hk
  rcases hm with rfl | rfl | rfl
  · exact rAcc_1 hs at0 k hn
  · exact rAcc_2 hs at0 k hn
  · exact rAcc_4 hs at0 k hn

set_option maxRecDepth 100000 in
set_option maxHeartbeats 2000000 in
theorem rPeek_bad {P : List Int} {B : List UInt8} (hs : spB P B.length = false) (at0 n : Int) : RPeek P B at0 n [] 0 0 30 := by
  intro w p pc q qc h
  have C1 : ∀ W, Below w.heap.size w W → Calls Try.prog 22 #[spV p P.length pc q B.length qc] W fun e w' => e = .returned (.int .i64 (spE P B.length)) ∧ Below W.heap.size W w' := fun W g => rcheck3_any P p pc q B.length qc W (h.perm.up g)
  rw [spE_bad hs] at C1
  clear h hs
  go_enter Try.func31, Try.ntmps31
  go_wp2_with (go_at_call 22; (refine (C1 _ (Gr.below (by repeat (first | (with_reducible exact Gr.refl _) | with_reducible refine Gr.alloc ?_ _ | with_reducible refine Gr.more ?_ _ _ | with_reducible refine Gr.setCell ?_ (by dsimp only; omega) _ | with_reducible refine Gr.drew ?_)))).mono ?_); rintro e w1 ⟨rfl, hb⟩; obtain ⟨os, n', rfl⟩ := Below.moreE hb; clear hb)
  refine bodyPost_ret (v := .agg #[.slice none 0 0, .int .i64 0, .int .i64 0, .int .i64 30]) (by simp [results, go_sem, *]) rfl ?_
  exact ⟨_, rfl, sqNone _ _, (Gr.below (by repeat (first | (with_reducible exact Gr.refl _) | with_reducible refine Gr.alloc ?_ _ | with_reducible refine Gr.more ?_ _ _ | with_reducible refine Gr.setCell ?_ (by dsimp only; omega) _ | with_reducible refine Gr.drew ?_)))⟩

set_option maxRecDepth 100000 in
set_option maxHeartbeats 2000000 in
theorem rPeek_lo {P : List Int} {B : List UInt8} (hs : spB P B.length = true) (at0 n : Int) (hn : n < 0) : RPeek P B at0 n [] 0 0 1 := by
  intro w p pc q qc h
  have C1 : ∀ W, Below w.heap.size w W → Calls Try.prog 22 #[spV p P.length pc q B.length qc] W fun e w' => e = .returned (.int .i64 (spE P B.length)) ∧ Below W.heap.size W w' := fun W g => rcheck3_any P p pc q B.length qc W (h.perm.up g)
  rw [spE_ok hs] at C1
  clear h hs
  go_enter Try.func31, Try.ntmps31
  go_wp2_with (go_at_call 22; (refine (C1 _ (Gr.below (by repeat (first | (with_reducible exact Gr.refl _) | with_reducible refine Gr.alloc ?_ _ | with_reducible refine Gr.more ?_ _ _ | with_reducible refine Gr.setCell ?_ (by dsimp only; omega) _ | with_reducible refine Gr.drew ?_)))).mono ?_); rintro e w1 ⟨rfl, hb⟩; obtain ⟨os, n', rfl⟩ := Below.moreE hb; clear hb)
  refine bodyPost_ret (v := .agg #[.slice none 0 0, .int .i64 0, .int .i64 0, .int .i64 1]) (by simp [results, go_sem, *]) rfl ?_
  exact ⟨_, rfl, sqNone _ _, (Gr.below (by repeat (first | (with_reducible exact Gr.refl _) | with_reducible refine Gr.alloc ?_ _ | with_reducible refine Gr.more ?_ _ _ | with_reducible refine Gr.setCell ?_ (by dsimp only; omega) _ | with_reducible refine Gr.drew ?_)))⟩

set_option maxRecDepth 100000 in
set_option maxHeartbeats 2000000 in
theorem rPeek_hi {P : List Int} {B : List UInt8} (hs : spB P B.length = true) (at0 n : Int) (hn : 2048 < n) : RPeek P B at0 n [] 0 0 1 := by
  intro w p pc q qc h
  have C1 : ∀ W, Below w.heap.size w W → Calls Try.prog 22 #[spV p P.length pc q B.length qc] W fun e w' => e = .returned (.int .i64 (spE P B.length)) ∧ Below W.heap.size W w' := fun W g => rcheck3_any P p pc q B.length qc W (h.perm.up g)
  rw [spE_ok hs] at C1
  have hn0 : ¬ n < 0 := by omega
  clear h hs
  go_enter Try.func31, Try.ntmps31
  go_wp2_with (go_at_call 22; (refine (C1 _ (Gr.below (by repeat (first | (with_reducible exact Gr.refl _) | with_reducible refine Gr.alloc ?_ _ | with_reducible refine Gr.more ?_ _ _ | with_reducible refine Gr.setCell ?_ (by dsimp only; omega) _ | with_reducible refine Gr.drew ?_)))).mono ?_); rintro e w1 ⟨rfl, hb⟩; obtain ⟨os, n', rfl⟩ := Below.moreE hb; clear hb)
  refine bodyPost_ret (v := .agg #[.slice none 0 0, .int .i64 0, .int .i64 0, .int .i64 1]) (by simp [results, go_sem, *]) rfl ?_
  exact ⟨_, rfl, sqNone _ _, (Gr.below (by repeat (first | (with_reducible exact Gr.refl _) | with_reducible refine Gr.alloc ?_ _ | with_reducible refine Gr.more ?_ _ _ | with_reducible refine Gr.setCell ?_ (by dsimp only; omega) _ | with_reducible refine Gr.drew ?_)))⟩

theorem rPeek_arg {P : List Int} {B : List UInt8} (hs : spB P B.length = true) (at0 n : Int) (hn : n < 0 ∨ 2048 < n) : RPeek P B at0 n [] 0 0 1 := by
  rcases hn with h | h
  · exact rPeek_lo hs at0 n h
  · exact rPeek_hi hs at0 n h

set_option maxRecDepth 100000 in
set_option maxHeartbeats 2000000 in
theorem rFetch_bad {P : List Int} {B : List UInt8} (hs : spB P B.length = false) (at0 n : Int) : RFetch P B at0 n [] 30 := by
  intro w p pc q qc h
  have C1 : ∀ W, Below w.heap.size w W → Calls Try.prog 22 #[spV p P.length pc q B.length qc] W fun e w' => e = .returned (.int .i64 (spE P B.length)) ∧ Below W.heap.size W w' := fun W g => rcheck3_any P p pc q B.length qc W (h.perm.up g)
  rw [spE_bad hs] at C1
  clear h hs
  go_enter Try.func30, Try.ntmps30
  go_wp2_with (go_at_call 22; (refine (C1 _ (Gr.below (by repeat (first | (with_reducible exact Gr.refl _) | with_reducible refine Gr.alloc ?_ _ | with_reducible refine Gr.more ?_ _ _ | with_reducible refine Gr.setCell ?_ (by dsimp only; omega) _ | with_reducible refine Gr.drew ?_)))).mono ?_); rintro e w1 ⟨rfl, hb⟩; obtain ⟨os, n', rfl⟩ := Below.moreE hb; clear hb)
  refine bodyPost_ret (v := .agg #[.slice none 0 0, .int .i64 0, .int .i64 0, .int .i64 30]) (by simp [results, go_sem, *]) rfl ?_
  exact ⟨_, rfl, sqNone _ _, (Gr.below (by repeat (first | (with_reducible exact Gr.refl _) | with_reducible refine Gr.alloc ?_ _ | with_reducible refine Gr.more ?_ _ _ | with_reducible refine Gr.setCell ?_ (by dsimp only; omega) _ | with_reducible refine Gr.drew ?_)))⟩

set_option maxRecDepth 100000 in
set_option maxHeartbeats 2000000 in
theorem rFetch_lo {P : List Int} {B : List UInt8} (hs : spB P B.length = true) (at0 n : Int) (hn : n < 0) : RFetch P B at0 n [] 1 := by
  intro w p pc q qc h
  have C1 : ∀ W, Below w.heap.size w W → Calls Try.prog 22 #[spV p P.length pc q B.length qc] W fun e w' => e = .returned (.int .i64 (spE P B.length)) ∧ Below W.heap.size W w' := fun W g => rcheck3_any P p pc q B.length qc W (h.perm.up g)
  rw [spE_ok hs] at C1
  clear h hs
  go_enter Try.func30, Try.ntmps30
  go_wp2_with (go_at_call 22; (refine (C1 _ (Gr.below (by repeat (first | (with_reducible exact Gr.refl _) | with_reducible refine Gr.alloc ?_ _ | with_reducible refine Gr.more ?_ _ _ | with_reducible refine Gr.setCell ?_ (by dsimp only; omega) _ | with_reducible refine Gr.drew ?_)))).mono ?_); rintro e w1 ⟨rfl, hb⟩; obtain ⟨os, n', rfl⟩ := Below.moreE hb; clear hb)
  refine bodyPost_ret (v := .agg #[.slice none 0 0, .int .i64 0, .int .i64 0, .int .i64 1]) (by simp [results, go_sem, *]) rfl ?_
  exact ⟨_, rfl, sqNone _ _, (Gr.below (by repeat (first | (with_reducible exact Gr.refl _) | with_reducible refine Gr.alloc ?_ _ | with_reducible refine Gr.more ?_ _ _ | with_reducible refine Gr.setCell ?_ (by dsimp only; omega) _ | with_reducible refine Gr.drew ?_)))⟩

set_option maxRecDepth 100000 in
set_option maxHeartbeats 2000000 in
theorem rFetch_hi {P : List Int} {B : List UInt8} (hs : spB P B.length = true) (at0 n : Int) (hn : 2048 < n) : RFetch P B at0 n [] 1 := by
  intro w p pc q qc h
  have C1 : ∀ W, Below w.heap.size w W → Calls Try.prog 22 #[spV p P.length pc q B.length qc] W fun e w' => e = .returned (.int .i64 (spE P B.length)) ∧ Below W.heap.size W w' := fun W g => rcheck3_any P p pc q B.length qc W (h.perm.up g)
  rw [spE_ok hs] at C1
  have hn0 : ¬ n < 0 := by omega
  clear h hs
  go_enter Try.func30, Try.ntmps30
  go_wp2_with (go_at_call 22; (refine (C1 _ (Gr.below (by repeat (first | (with_reducible exact Gr.refl _) | with_reducible refine Gr.alloc ?_ _ | with_reducible refine Gr.more ?_ _ _ | with_reducible refine Gr.setCell ?_ (by dsimp only; omega) _ | with_reducible refine Gr.drew ?_)))).mono ?_); rintro e w1 ⟨rfl, hb⟩; obtain ⟨os, n', rfl⟩ := Below.moreE hb; clear hb)
  refine bodyPost_ret (v := .agg #[.slice none 0 0, .int .i64 0, .int .i64 0, .int .i64 1]) (by simp [results, go_sem, *]) rfl ?_
  exact ⟨_, rfl, sqNone _ _, (Gr.below (by repeat (first | (with_reducible exact Gr.refl _) | with_reducible refine Gr.alloc ?_ _ | with_reducible refine Gr.more ?_ _ _ | with_reducible refine Gr.setCell ?_ (by dsimp only; omega) _ | with_reducible refine Gr.drew ?_)))⟩

theorem rFetch_arg {P : List Int} {B : List UInt8} (hs : spB P B.length = true) (at0 n : Int) (hn : n < 0 ∨ 2048 < n) : RFetch P B at0 n [] 1 := by
  rcases hn with h | h
  · exact rFetch_lo hs at0 n h
  · exact rFetch_hi hs at0 n h

set_option maxRecDepth 100000 in
set_option maxHeartbeats 2000000 in
theorem rPeek_flt {P : List Int} {B : List UInt8} (hs : spB P B.length = true) (at0 : Int) {n : Int} {k : Nat} (hk : n = k) (hn : k ≤ 2048) (hf : fltK P 0 at0 k ≠ 0) : RPeek P B at0 n [] (fltK P 0 at0 k) (fltA P 0 at0 k) 0 := by
  intro w p pc q qc h
  subst hk
  have C1 : ∀ W, Below w.heap.size w W → Calls Try.prog 22 #[spV p P.length pc q B.length qc] W fun e w' => e = .returned (.int .i64 (spE P B.length)) ∧ Below W.heap.size W w' := fun W g => rcheck3_any P p pc q B.length qc W (h.perm.up g)
  rw [spE_ok hs] at C1
  have FF : ∀ W, Below w.heap.size w W → Calls Try.prog 61 #[spV p P.length pc q B.length qc, .int .i64 at0, .int .i64 (k : Int), .int .i64 0] W fun e w' => e = .returned (ftV (fltK P 0 at0 k) (fltA P 0 at0 k)) ∧ Below W.heap.size W w' := fun W g => rfault_any P p pc B q qc at0 k 0 (by decide) W (h.perm.up g) hs hn
  generalize fltK P 0 at0 k = K at *
  generalize fltA P 0 at0 k = A at *
  have h0 : (k : Int) ≤ 2048 := by omega
  have hf' : (K != 0) = true := bne_iff_ne.2 hf
  clear h hs hn hf
  go_enter Try.func31, Try.ntmps31
  go_wp2_with first | (go_at_call 22; (refine (C1 _ (Gr.below (by repeat (first | (with_reducible exact Gr.refl _) | with_reducible refine Gr.alloc ?_ _ | with_reducible refine Gr.more ?_ _ _ | with_reducible refine Gr.setCell ?_ (by dsimp only; omega) _ | with_reducible refine Gr.drew ?_)))).mono ?_); rintro e w1 ⟨rfl, hb⟩; obtain ⟨os, n', rfl⟩ := Below.moreE hb; clear hb) | (go_at_call 61; (refine (FF _ (Gr.below (by repeat (first | (with_reducible exact Gr.refl _) | with_reducible refine Gr.alloc ?_ _ | with_reducible refine Gr.more ?_ _ _ | with_reducible refine Gr.setCell ?_ (by dsimp only; omega) _ | with_reducible refine Gr.drew ?_)))).mono ?_); rintro e w1 ⟨rfl, hb⟩; obtain ⟨os, n', rfl⟩ := Below.moreE hb; clear hb)
  refine bodyPost_ret (v := .agg #[.slice none 0 0, .int .i64 K, .int .i64 A, .int .i64 0]) (by simp [results, go_sem, *]) rfl ?_
  exact ⟨_, rfl, sqNone _ _, (Gr.below (by repeat (first | (with_reducible exact Gr.refl _) | with_reducible refine Gr.alloc ?_ _ | with_reducible refine Gr.more ?_ _ _ | with_reducible refine Gr.setCell ?_ (by dsimp only; omega) _ | with_reducible refine Gr.drew ?_)))⟩

set_option maxRecDepth 100000 in
set_option maxHeartbeats 2000000 in
theorem rPeek_ok {P : List Int} {B : List UInt8} (hs : spB P B.length = true) (at0 : Int) {n : Int} {k : Nat} (hk : n = k) (hn : k ≤ 2048) (hf : fltK P 0 at0 k = 0) : RPeek P B at0 n (rdL B at0 k) 0 0 0 := by
  intro w p pc q qc h
  subst hk
  have C1 : ∀ W, Below w.heap.size w W → Calls Try.prog 22 #[spV p P.length pc q B.length qc] W fun e w' => e = .returned (.int .i64 (spE P B.length)) ∧ Below W.heap.size W w' := fun W g => rcheck3_any P p pc q B.length qc W (h.perm.up g)
  rw [spE_ok hs] at C1
  have FF : ∀ W, Below w.heap.size w W → Calls Try.prog 61 #[spV p P.length pc q B.length qc, .int .i64 at0, .int .i64 (k : Int), .int .i64 0] W fun e w' => e = .returned (ftV (fltK P 0 at0 k) (fltA P 0 at0 k)) ∧ Below W.heap.size W w' := fun W g => rfault_any P p pc B q qc at0 k 0 (by decide) W (h.perm.up g) hs hn
  have BB : ∀ W, Below w.heap.size w W → Calls Try.prog 63 #[spV p P.length pc q B.length qc, .int .i64 at0, .int .i64 (k : Int)] W fun e w' => ∃ v, e = .returned v ∧ SqVal W.heap.size w' v (rdL B at0 k) ∧ Below W.heap.size W w' := fun W g => (rbytes3_ok P p pc B q qc at0 k W (h.byte.up g) hn (fun j hj => by have := kind_in (flt_zero_iff.1 hf j hj); have := (spB_len hs).2; omega)).mono fun e w' ⟨v, h1, h2, h3⟩ => ⟨v, h1, sq_of_own (rdL_len _ _ _) h2, h3⟩
  rw [hf, fltA_zero hf] at FF
  have hl := rdL_len B at0 k
  generalize rdL B at0 k = X at *
  have h0 : (k : Int) ≤ 2048 := by omega
  clear h hs hn hf hl
  go_enter Try.func31, Try.ntmps31
  go_wp2_with first | (go_at_call 22; (refine (C1 _ (Gr.below (by repeat (first | (with_reducible exact Gr.refl _) | with_reducible refine Gr.alloc ?_ _ | with_reducible refine Gr.more ?_ _ _ | with_reducible refine Gr.setCell ?_ (by dsimp only; omega) _ | with_reducible refine Gr.drew ?_)))).mono ?_); rintro e w1 ⟨rfl, hb⟩; obtain ⟨os, n', rfl⟩ := Below.moreE hb; clear hb) | (go_at_call 61; (refine (FF _ (Gr.below (by repeat (first | (with_reducible exact Gr.refl _) | with_reducible refine Gr.alloc ?_ _ | with_reducible refine Gr.more ?_ _ _ | with_reducible refine Gr.setCell ?_ (by dsimp only; omega) _ | with_reducible refine Gr.drew ?_)))).mono ?_); rintro e w1 ⟨rfl, hb⟩; obtain ⟨os, n', rfl⟩ := Below.moreE hb; clear hb) | (go_at_call 63; (refine (BB _ (Gr.below (by repeat (first | (with_reducible exact Gr.refl _) | with_reducible refine Gr.alloc ?_ _ | with_reducible refine Gr.more ?_ _ _ | with_reducible refine Gr.setCell ?_ (by dsimp only; omega) _ | with_reducible refine Gr.drew ?_)))).mono ?_); rintro e w1 ⟨_, rfl, ⟨rp, rc, rfl, hr⟩, hb⟩; have hv : SqVal _ w1 (.slice rp _ rc) _ := ⟨rp, rc, rfl, hr⟩; clear hr; obtain ⟨os, n', rfl⟩ := Below.moreE hb; clear hb; (try simp only [World.more_more, World.more_drew, Array.append_assoc, World.size_more, World.size_alloc] at hv))
  refine bodyPost_ret (v := .agg #[.slice rp X.length rc, .int .i64 0, .int .i64 0, .int .i64 0]) (by simp [results, go_sem, *]) rfl ?_
  exact ⟨_, rfl, (hv.of (fun hv => by repeat (first | (with_reducible exact hv) | with_reducible refine SqVal.al ?_ _ | with_reducible refine SqVal.mo ?_ _ _ | with_reducible refine SqVal.set ?_ (by (try dsimp only); (try simp only [World.size_more, World.size_alloc, World.size_setCell, World.size_drew, Array.size_append]); omega) _)) (by (try simp only [World.size_more, World.size_alloc, World.size_setCell, World.size_drew, Array.size_append]); omega)), (Gr.below (by repeat (first | (with_reducible exact Gr.refl _) | with_reducible refine Gr.alloc ?_ _ | with_reducible refine Gr.more ?_ _ _ | with_reducible refine Gr.setCell ?_ (by dsimp only; omega) _ | with_reducible refine Gr.drew ?_)))⟩

set_option maxRecDepth 100000 in
set_option maxHeartbeats 2000000 in
theorem rLoad_bad {P : List Int} {B : List UInt8} (hs : spB P B.length = false) (at0 s : Int) (g : Bool) : RLoad P B at0 s g 0 0 0 30 := by
  intro w p pc q qc h
  have C1 : ∀ W, Below w.heap.size w W → Calls Try.prog 22 #[spV p P.length pc q B.length qc] W fun e w' => e = .returned (.int .i64 (spE P B.length)) ∧ Below W.heap.size W w' := fun W g => rcheck3_any P p pc q B.length qc W (h.perm.up g)
  rw [spE_bad hs] at C1
  clear h hs
  go_enter Try.func36, Try.ntmps36
  go_wp2_with (go_at_call 22; (refine (C1 _ (Gr.below (by repeat (first | (with_reducible exact Gr.refl _) | with_reducible refine Gr.alloc ?_ _ | with_reducible refine Gr.more ?_ _ _ | with_reducible refine Gr.setCell ?_ (by dsimp only; omega) _ | with_reducible refine Gr.drew ?_)))).mono ?_); rintro e w1 ⟨rfl, hb⟩; obtain ⟨os, n', rfl⟩ := Below.moreE hb; clear hb)
  refine bodyPost_ret (v := .agg #[.int .i64 0, .int .i64 0, .int .i64 0, .int .i64 30]) (by simp [results, go_sem, *]) rfl ?_
  exact ⟨rfl, (Gr.below (by repeat (first | (with_reducible exact Gr.refl _) | with_reducible refine Gr.alloc ?_ _ | with_reducible refine Gr.more ?_ _ _ | with_reducible refine Gr.setCell ?_ (by dsimp only; omega) _ | with_reducible refine Gr.drew ?_)))⟩

set_option maxRecDepth 100000 in
set_option maxHeartbeats 2000000 in
theorem rLoad_type {P : List Int} {B : List UInt8} (hs : spB P B.length = true) (at0 : Int) {s : Int} (hv : validB s = false) (g : Bool) : RLoad P B at0 s g 0 0 0 10 := by
  intro w p pc q qc h
  have C1 : ∀ W, Below w.heap.size w W → Calls Try.prog 22 #[spV p P.length pc q B.length qc] W fun e w' => e = .returned (.int .i64 (spE P B.length)) ∧ Below W.heap.size W w' := fun W g => rcheck3_any P p pc q B.length qc W (h.perm.up g)
  rw [spE_ok hs] at C1
  have T1 : ∀ W, Below w.heap.size w W → Calls Try.prog 45 #[tyV s g] W fun e w' => e = .returned (.int .i64 (eT s)) ∧ Below W.heap.size W w' := fun W _ => rcheck_any s g W
  rw [eT_bad hv] at T1
  clear h hs hv
  go_enter Try.func36, Try.ntmps36
  go_wp2_with first | (go_at_call 22; (refine (C1 _ (Gr.below (by repeat (first | (with_reducible exact Gr.refl _) | with_reducible refine Gr.alloc ?_ _ | with_reducible refine Gr.more ?_ _ _ | with_reducible refine Gr.setCell ?_ (by dsimp only; omega) _ | with_reducible refine Gr.drew ?_)))).mono ?_); rintro e w1 ⟨rfl, hb⟩; obtain ⟨os, n', rfl⟩ := Below.moreE hb; clear hb) | (go_at_call 45; (refine (T1 _ (Gr.below (by repeat (first | (with_reducible exact Gr.refl _) | with_reducible refine Gr.alloc ?_ _ | with_reducible refine Gr.more ?_ _ _ | with_reducible refine Gr.setCell ?_ (by dsimp only; omega) _ | with_reducible refine Gr.drew ?_)))).mono ?_); rintro e w1 ⟨rfl, hb⟩; obtain ⟨os, n', rfl⟩ := Below.moreE hb; clear hb)
  refine bodyPost_ret (v := .agg #[.int .i64 0, .int .i64 0, .int .i64 0, .int .i64 10]) (by simp [results, go_sem, *]) rfl ?_
  exact ⟨rfl, (Gr.below (by repeat (first | (with_reducible exact Gr.refl _) | with_reducible refine Gr.alloc ?_ _ | with_reducible refine Gr.more ?_ _ _ | with_reducible refine Gr.setCell ?_ (by dsimp only; omega) _ | with_reducible refine Gr.drew ?_)))⟩

set_option maxRecDepth 100000 in
set_option maxHeartbeats 2000000 in
theorem rLoad_flt {P : List Int} {B : List UInt8} (hs : spB P B.length = true) (at0 : Int) {s : Int} (hv : validB s = true) (g : Bool) (hf : fltK P 1 at0 s.toNat ≠ 0) : RLoad P B at0 s g 0 (fltK P 1 at0 s.toNat) (fltA P 1 at0 s.toNat) 0 := by
  intro w p pc q qc h
  have h8 : 1 ≤ s ∧ s ≤ 8 := by rcases (valid_iff s).1 hv with rfl | rfl | rfl | rfl <;> omega
  obtain ⟨k, rfl⟩ : ∃ k : Nat, s = (k : Int) := ⟨s.toNat, by omega⟩
  have hn : k ≤ 2048 := by omega
  rw [Int.toNat_natCast] at *
  have C1 : ∀ W, Below w.heap.size w W → Calls Try.prog 22 #[spV p P.length pc q B.length qc] W fun e w' => e = .returned (.int .i64 (spE P B.length)) ∧ Below W.heap.size W w' := fun W g => rcheck3_any P p pc q B.length qc W (h.perm.up g)
  rw [spE_ok hs] at C1
  have T1 : ∀ W, Below w.heap.size w W → Calls Try.prog 45 #[tyV k g] W fun e w' => e = .returned (.int .i64 (eT k)) ∧ Below W.heap.size W w' := fun W _ => rcheck_any k g W
  have FF : ∀ W, Below w.heap.size w W → Calls Try.prog 61 #[spV p P.length pc q B.length qc, .int .i64 at0, .int .i64 (k : Int), .int .i64 1] W fun e w' => e = .returned (ftV (fltK P 1 at0 k) (fltA P 1 at0 k)) ∧ Below W.heap.size W w' := fun W g => rfault_any P p pc B q qc at0 k 1 (by decide) W (h.perm.up g) hs hn
  rw [eT_ok hv] at T1
  generalize fltK P 1 at0 k = K at *
  generalize fltA P 1 at0 k = A at *
  have hf' : (K != 0) = true := bne_iff_ne.2 hf
  clear h hs hv hf hn h8
  go_enter Try.func36, Try.ntmps36
  go_wp2_with first | (go_at_call 22; (refine (C1 _ (Gr.below (by repeat (first | (with_reducible exact Gr.refl _) | with_reducible refine Gr.alloc ?_ _ | with_reducible refine Gr.more ?_ _ _ | with_reducible refine Gr.setCell ?_ (by dsimp only; omega) _ | with_reducible refine Gr.drew ?_)))).mono ?_); rintro e w1 ⟨rfl, hb⟩; obtain ⟨os, n', rfl⟩ := Below.moreE hb; clear hb) | (go_at_call 45; (refine (T1 _ (Gr.below (by repeat (first | (with_reducible exact Gr.refl _) | with_reducible refine Gr.alloc ?_ _ | with_reducible refine Gr.more ?_ _ _ | with_reducible refine Gr.setCell ?_ (by dsimp only; omega) _ | with_reducible refine Gr.drew ?_)))).mono ?_); rintro e w1 ⟨rfl, hb⟩; obtain ⟨os, n', rfl⟩ := Below.moreE hb; clear hb) | (go_at_call 61; (refine (FF _ (Gr.below (by repeat (first | (with_reducible exact Gr.refl _) | with_reducible refine Gr.alloc ?_ _ | with_reducible refine Gr.more ?_ _ _ | with_reducible refine Gr.setCell ?_ (by dsimp only; omega) _ | with_reducible refine Gr.drew ?_)))).mono ?_); rintro e w1 ⟨rfl, hb⟩; obtain ⟨os, n', rfl⟩ := Below.moreE hb; clear hb)
  refine bodyPost_ret (v := .agg #[.int .i64 0, .int .i64 K, .int .i64 A, .int .i64 0]) (by simp [results, go_sem, *]) rfl ?_
  exact ⟨rfl, (Gr.below (by repeat (first | (with_reducible exact Gr.refl _) | with_reducible refine Gr.alloc ?_ _ | with_reducible refine Gr.more ?_ _ _ | with_reducible refine Gr.setCell ?_ (by dsimp only; omega) _ | with_reducible refine Gr.drew ?_)))⟩

set_option maxRecDepth 100000 in
set_option maxHeartbeats 2000000 in
theorem rLoad_ok {P : List Int} {B : List UInt8} (hs : spB P B.length = true) (at0 : Int) {s : Int} (hv : validB s = true) (g : Bool) (hf : fltK P 1 at0 s.toNat = 0) : RLoad P B at0 s g (fbV s g (rdL B at0 s.toNat)) 0 0 0 := by
  intro w p pc q qc h
  have h8 : 1 ≤ s ∧ s ≤ 8 := by rcases (valid_iff s).1 hv with rfl | rfl | rfl | rfl <;> omega
  obtain ⟨k, rfl⟩ : ∃ k : Nat, s = (k : Int) := ⟨s.toNat, by omega⟩
  have hn : k ≤ 2048 := by omega
  rw [Int.toNat_natCast] at *
  have C1 : ∀ W, Below w.heap.size w W → Calls Try.prog 22 #[spV p P.length pc q B.length qc] W fun e w' => e = .returned (.int .i64 (spE P B.length)) ∧ Below W.heap.size W w' := fun W g => rcheck3_any P p pc q B.length qc W (h.perm.up g)
  rw [spE_ok hs] at C1
  have T1 : ∀ W, Below w.heap.size w W → Calls Try.prog 45 #[tyV k g] W fun e w' => e = .returned (.int .i64 (eT k)) ∧ Below W.heap.size W w' := fun W _ => rcheck_any k g W
  have FF : ∀ W, Below w.heap.size w W → Calls Try.prog 61 #[spV p P.length pc q B.length qc, .int .i64 at0, .int .i64 (k : Int), .int .i64 1] W fun e w' => e = .returned (ftV (fltK P 1 at0 k) (fltA P 1 at0 k)) ∧ Below W.heap.size W w' := fun W g => rfault_any P p pc B q qc at0 k 1 (by decide) W (h.perm.up g) hs hn
  have BB : ∀ W, Below w.heap.size w W → Calls Try.prog 63 #[spV p P.length pc q B.length qc, .int .i64 at0, .int .i64 (k : Int)] W fun e w' => ∃ b cap, e = .returned (.slice (some ⟨b, 0, none⟩) (rdL B at0 k).length cap) ∧ BS w' b (rdL B at0 k) ∧ Below W.heap.size W w' := fun W g => (rbytes3_ok P p pc B q qc at0 k W (h.byte.up g) hn (fun j hj => by have := kind_in (flt_zero_iff.1 hf j hj); have := (spB_len hs).2; omega)).mono fun e w' ⟨v, h1, h2, h3⟩ => by
    obtain ⟨b, cap, rfl, _, h4⟩ := bs_of_own (l := rdL B at0 k) (by rw [rdL_len]; exact h2) (by rw [rdL_len]; omega)
    exact ⟨b, cap, h1, h4, h3⟩
  have GG := fun W b cap (hbs : BS W b (rdL B at0 k)) => rfrom_loop hv g (rdL B at0 k) (by rw [rdL_len]) b cap W hbs
  rw [eT_ok hv] at T1
  rw [hf, fltA_zero hf] at FF
  have hl := rdL_len B at0 k
  generalize rdL B at0 k = X at *
  generalize fbV (k : Int) g X = V at *
  clear h hs hv hf hn h8 hl
  go_enter Try.func36, Try.ntmps36
  go_upto_region 9 with (first | (go_at_call 22; (refine (C1 _ (Gr.below (by repeat (first | (with_reducible exact Gr.refl _) | with_reducible refine Gr.alloc ?_ _ | with_reducible refine Gr.more ?_ _ _ | with_reducible refine Gr.setCell ?_ (by dsimp only; omega) _ | with_reducible refine Gr.drew ?_)))).mono ?_); rintro e w1 ⟨rfl, hb⟩; obtain ⟨os, n', rfl⟩ := Below.moreE hb; clear hb) | (go_at_call 45; (refine (T1 _ (Gr.below (by repeat (first | (with_reducible exact Gr.refl _) | with_reducible refine Gr.alloc ?_ _ | with_reducible refine Gr.more ?_ _ _ | with_reducible refine Gr.setCell ?_ (by dsimp only; omega) _ | with_reducible refine Gr.drew ?_)))).mono ?_); rintro e w1 ⟨rfl, hb⟩; obtain ⟨os, n', rfl⟩ := Below.moreE hb; clear hb) | (go_at_call 61; (refine (FF _ (Gr.below (by repeat (first | (with_reducible exact Gr.refl _) | with_reducible refine Gr.alloc ?_ _ | with_reducible refine Gr.more ?_ _ _ | with_reducible refine Gr.setCell ?_ (by dsimp only; omega) _ | with_reducible refine Gr.drew ?_)))).mono ?_); rintro e w1 ⟨rfl, hb⟩; obtain ⟨os, n', rfl⟩ := Below.moreE hb; clear hb))
  have HL1 : True := trivial
  go_region_held3 (fun W' => W'.cell? ⟨w.heap.size, 0, none⟩ = some (.slice p P.length pc) ∧ W'.cell? ⟨w.heap.size, 1, none⟩ = some (.slice q B.length qc) ∧ W'.cell? ⟨w.heap.size + 1, 0, none⟩ = some (.int .i64 (k : Int)) ∧ W'.cell? ⟨w.heap.size + 1, 1, none⟩ = some (.bool g)) (exact ⟨by go_simp, by go_simp, by go_simp, by go_simp⟩) (first | (go_at_call 63; (refine (BB _ (Gr.below (by repeat (first | (with_reducible exact Gr.refl _) | with_reducible refine Gr.alloc ?_ _ | with_reducible refine Gr.more ?_ _ _ | with_reducible refine Gr.setCell ?_ (by dsimp only; omega) _ | with_reducible refine Gr.drew ?_)))).mono ?_); rintro e w1 ⟨b, cap, rfl, hbs, hb⟩; obtain ⟨os, n', rfl⟩ := Below.moreE hb; clear hb; (try simp only [World.more_more, World.more_drew, Array.append_assoc] at hbs)) | (go_at_call 43; (refine (GG _ _ _ (hbs.up (by repeat (first | (with_reducible exact Gr.refl _) | with_reducible refine Gr.alloc ?_ _ | with_reducible refine Gr.more ?_ _ _ | with_reducible refine Gr.setCell ?_ (by dsimp only; (try simp only [World.size_more, World.size_alloc, World.size_setCell, World.size_drew, Array.size_append]); omega) _ | with_reducible refine Gr.drew ?_)))).mono ?_); rintro e w1 ⟨rfl, hb⟩; obtain ⟨os2, n2, rfl⟩ := Below.moreE hb; clear hb))
  all_goals (
    go_wp2_with fail
    refine bodyPost_ret (v := .agg #[.int .i64 V, .int .i64 0, .int .i64 0, .int .i64 0]) (by simp [results, go_sem, *]) rfl ?_
    exact ⟨rfl, (Gr.below (by repeat (first | (with_reducible exact Gr.refl _) | with_reducible refine Gr.alloc ?_ _ | with_reducible refine Gr.more ?_ _ _ | with_reducible refine Gr.setCell ?_ (by dsimp only; omega) _ | with_reducible refine Gr.drew ?_)))⟩)
end Go.Proofs.Ytnapbpfofpaakaa

namespace Go.Proofs.Ytnapbpfofpaakaa
open Go.RowKit

theorem good_is {P : List Int} {at0 : Int} {n k : Nat} (hk : k ≤ n) (h : ∀ j, j < k → kindA P 4 (adr at0 j) = 0) (hs : k < n → kindA P 4 (adr at0 k) ≠ 0) : goodA P 4 at0 n = k :=
  cnt_eq hk (fun j hj => by simp [okA, h j hj]) (fun hlt => by simp [okA, hs hlt])

set_option maxRecDepth 100000 in
set_option maxHeartbeats 4000000 in
theorem rfetched_ok (P : List Int) (p : Option Addr) (pc : Nat) (B : List UInt8) (q : Option Addr) (qc : Nat) (at0 : Int) (n : Nat) (w : World) (hP : SeqAt w p (iV P)) (hq : SeqAt w q (bV B)) (hs : spB P B.length = true) (hn : n ≤ 2048) :
    Calls Try.prog 62 #[spV p P.length pc q B.length qc, .int .i64 at0, .int .i64 (n : Int)] w fun e w' => ∃ v, e = .returned v ∧ w'.ownsRow w.heap.size 5 1 v (goodA P 4 at0 n) (bV (rdL B at0 (goodA P 4 at0 n))) ∧ Below w.heap.size w w' := by
  obtain ⟨i0, hi, hz0, hz1, hz2⟩ := info_parts A_infoU8
  obtain ⟨hl1, hl2⟩ := spB_len hs
  have HL := Lib.hid hl2
  have HS : ∀ W, Below w.heap.size w W → SeqAt W p (iV P) := fun W g => hP.up g
  have HS := Lib.hid HS
  have HQ : ∀ W, Below w.heap.size w W → SeqAt W q (bV B) := fun W g => hq.up g
  have HQ := Lib.hid HQ
  have HP := Lib.hid (fun i => spB_perm hs i)
  have hn2 : (n : Int) ≤ 2048 := by omega
  have hB2 : (B.length : Int) ≤ 2048 := by omega
  clear hP hq hs hl2
  go_enter Try.func62, Try.ntmps62
  go_wp2_with fail
  go_loopw [7, 8] (fun l i wr => ∃ (v : Value) (k : Nat), v = l ∧ k ≤ n ∧ i = .int .i64 (k : Int) ∧ Hid (∀ j, j < k → kindA P 4 (adr at0 j) = 0) ∧ wr.cell? ⟨w.heap.size, 0, none⟩ = some (.slice p P.length pc) ∧ wr.cell? ⟨w.heap.size, 1, none⟩ = some (.slice q B.length qc) ∧ wr.ownsRow (w.heap.size + 1) 5 1 v k (bV (rdL B at0 k)) ∧ w.heap.size + 1 ≤ wr.heap.size ∧ Below w.heap.size w wr) (fun _ i _ => n - (intOf i).toNat)
  case atStart => exact ⟨_, 0, rfl, Nat.zero_le _, rfl, Lib.hid (fun j hj => by omega), by go_simp, by go_simp, World.ownsRow_nil _ _ _ _, by simp, (Gr.below (by repeat (first | (with_reducible exact Gr.refl _) | with_reducible refine Gr.alloc ?_ _ | with_reducible refine Gr.more ?_ _ _ | with_reducible refine Gr.setCell ?_ (by dsimp only; omega) _ | with_reducible refine Gr.drew ?_)))⟩
  case round =>
    obtain ⟨v, k, rfl, hk, rfl, hok, c0, c1, hown, hz, hB⟩ := hrel
    by_cases hlt : k < n
    · have hlt' : (k : Int) < (n : Int) := by omega
      have hk0 : (0 : Int) ≤ (k : Int) := by omega
      have hw1 : wrap64 ((k : Int) + 1) = (k : Int) + 1 := by unfold wrap64; omega
      obtain ⟨a, ha⟩ : ∃ a, adr at0 k = a := ⟨_, rfl⟩
      have HA := Lib.hid ha
      have ha' : wrap64 (at0 + (k : Int)) = a := ha
      have lw : w.heap.size < wr.heap.size := by omega
      have hD : ∀ W, Calls Try.prog 77 #[spV p P.length pc q B.length qc, .int .i64 a] W fun e w' => e = .returned (.bool (insB B.length a)) ∧ Below W.heap.size W w' := fun W => rinside_any p P.length pc q B.length qc a W
      clear ha
      cases hI : insB B.length a
      · rw [hI] at hD
        have HK : Hid (goodA P 4 at0 n = k) := Lib.hid (good_is hk hok.out (fun _ => by rw [HA.out, kind_out HL.out hI]; decide))
        clear hI hok
        go_wp2_with (go_at_call 77; (refine (hD _).mono ?_); rintro e w1 ⟨rfl, hb⟩; obtain ⟨os, n', rfl⟩ := Below.moreE hb; clear hb)
        go_ret
        rw [HK.out]
        exact ⟨_, rfl, own_lowN (base := w.heap.size + 1) (by omega) (own_mo hown _ _), hB.trans ((World.more_below _ _ _).mono (by omega))⟩
      · rw [hI] at hD
        have hK := kind_ins (m := 4) HL.out hI
        have h01 : 0 ≤ a ∧ a < 64 * (P.length : Int) := by have := HL.out; simp [insB] at hI; omega
        obtain ⟨h0, h1⟩ := h01
        clear hI
        have i0' : 0 ≤ a / 64 := by omega
        have i1' : a / 64 < (P.length : Int) := by omega
        have hlp : (a / 64).toNat < P.length := by omega
        obtain ⟨b1, o1, rfl, e1⟩ := seqAt_neK (HS.out wr hB) (by intro e; have := congrArg List.length e; rw [iV_len] at this; simp at this; rw [this] at hlp; simp at hlp)
        have d1 := e1 _ _ (iV_get P _ hlp)
        have hg : P.getD (a / 64).toNat 0 = P[(a / 64).toNat] := by simp [List.getD, hlp]
        have hpm : permB P[(a / 64).toNat] = true := by have := HP.out (a / 64).toNat; rwa [hg] at this
        rw [hg] at hK
        have lb1 := lt_of_cell d1
        clear e1 hg
        generalize P[(a / 64).toNat] = x at *
        by_cases hx : x = 4
        · have hx' : (x != 4) = false := by rw [bne_eq_false_iff_eq]; exact hx
          replace hK : kindA P 4 a = 0 := by rw [hK, if_neg (fun h => (and_perm x hpm).1 h.2 hx)]
          clear hx hpm
          have hst : Hid (∀ j, j < k + 1 → kindA P 4 (adr at0 j) = 0) := Lib.hid (fun j hj => by
            by_cases e : j = k
            · subst e; rw [HA.out]; exact hK
            · exact hok.out j (by omega))
          clear hok hK
          have hmB : a.toNat < B.length := by have := HL.out; omega
          have hmi : a < (B.length : Int) := by omega
          obtain ⟨b2, o2, rfl, e2⟩ := seqAt_neK (HQ.out wr hB) (by intro e; have := congrArg List.length e; rw [bV_len] at this; simp at this; rw [this] at hmB; simp at hmB)
          have d2 := e2 _ _ (bV_get B _ hmB)
          have lb2 := lt_of_cell d2
          have HE : Hid (bV (rdL B at0 (k + 1)) = bV (rdL B at0 k) ++ [.int .u8 (B[a.toNat].toNat : Int)]) := by
            refine Lib.hid ?_
            rw [rdL_snoc]
            simp [bV, rdA, HA.out, List.getD, hmB]
          clear e2
          generalize (B[a.toNat].toNat : Int) = y at *
          go_wp2_with first | (go_at_call 77; (refine (hD _).mono ?_); rintro e w1 ⟨rfl, hb⟩; obtain ⟨os, n', rfl⟩ := Below.moreE hb; clear hb) | (at_builtin; refine wpList_append_own _ rfl _ _ 23 rfl (w.heap.size + 1) 5 i0 (.int .u8 0) 1 1 Try.underlying23 hi hz0 hz1 hz2 rfl (by decide) v k (bV (rdL B at0 k)) rfl (own_al (own_mo hown _ _) _) ⟨wr.heap.size + os.size, 0, none⟩ 1 1 [.int .u8 y] rfl ?qc1 ?qc2 ?qc3 ?qc4 ?qc5 ?qc6 ?_)
          case qc1 => rfl
          case qc2 => exact World.news_of_block (by have := World.alloc_heap_new (w := wr.more os n') (.cells #[.int .u8 y] 5); simpa using this)
          case qc3 => intro u hu; simp at hu; subst hu; rfl
          case qc4 => unfold maxLen; omega
          case qc5 => omega
          case qc6 => simp; omega
          intro v' w5 hown5 hgrow hnil
          have hge : ∀ j, v.ownBlock = some j → w.heap.size + 1 ≤ j := fun j hj => (hown.lt j hj).1
          have hne : some w.heap.size ≠ v.ownBlock := fun e => by have := hge _ e.symm; omega
          have k0 : w5.cell? ⟨w.heap.size, 0, none⟩ = some (.slice (some ⟨b1, o1, none⟩) P.length pc) := grown_cell hgrow (by go_simp) hne
          have k1 : w5.cell? ⟨w.heap.size, 1, none⟩ = some (.slice (some ⟨b2, o2, none⟩) B.length qc) := grown_cell hgrow (by go_simp) hne
          have hown6 : w5.ownsRow (w.heap.size + 1) 5 1 v' (k + 1) (bV (rdL B at0 (k + 1))) := by
            rw [HE.out]; exact hown5
          have hB5 : Below w.heap.size w w5 := ((hB.trans ((World.more_below _ _ _).mono (by omega))).alloc (by simp; omega) _).grown hgrow (by simp; omega) (fun j hj => by have := hge j hj; omega)
          have hz5 : w.heap.size + 1 ≤ w5.heap.size := by have := hgrow.size; simp at this; omega
          clear hown hown5 hgrow hnil hge hne c0 c1 d1 d2
          go_wp2_with fail
          exact ⟨⟨_, k + 1, rfl, hlt, by push_cast; rfl, hst, k0, k1, hown6, hz5, hB5⟩, by show n - ((k : Int) + 1).toNat < n - (k : Int).toNat; omega⟩
        · have hx' : (x != 4) = true := bne_iff_ne.2 hx
          replace hK : kindA P 4 a = 4 := by rw [hK, if_pos ⟨by decide, (and_perm x hpm).2 hx⟩]; rfl
          clear hx hpm
          have HK : Hid (goodA P 4 at0 n = k) := Lib.hid (good_is hk hok.out (fun _ => by rw [HA.out, hK]; decide))
          clear hok hK
          go_wp2_with (go_at_call 77; (refine (hD _).mono ?_); rintro e w1 ⟨rfl, hb⟩; obtain ⟨os, n', rfl⟩ := Below.moreE hb; clear hb)
          go_ret
          rw [HK.out]
          exact ⟨_, rfl, own_lowN (base := w.heap.size + 1) (by omega) (own_mo hown _ _), hB.trans ((World.more_below _ _ _).mono (by omega))⟩
    · obtain rfl : k = n := by omega
      have HK : Hid (goodA P 4 at0 k = k) := Lib.hid (good_is hk hok.out (fun h => by omega))
      clear hok
      go_wp2_with fail
      go_ret
      rw [HK.out]
      exact ⟨_, rfl, own_lowN (by omega) hown, hB⟩

set_option maxRecDepth 100000 in
set_option maxHeartbeats 2000000 in
theorem rFetch_ok {P : List Int} {B : List UInt8} (hs : spB P B.length = true) (at0 : Int) {n : Int} {k : Nat} (hk : n = k) (hn : k ≤ 2048) : RFetch P B at0 n (rdL B at0 (goodA P 4 at0 k)) 0 := by
  intro w p pc q qc h
  subst hk
  have C1 : ∀ W, Below w.heap.size w W → Calls Try.prog 22 #[spV p P.length pc q B.length qc] W fun e w' => e = .returned (.int .i64 (spE P B.length)) ∧ Below W.heap.size W w' := fun W g => rcheck3_any P p pc q B.length qc W (h.perm.up g)
  rw [spE_ok hs] at C1
  have BB : ∀ W, Below w.heap.size w W → Calls Try.prog 62 #[spV p P.length pc q B.length qc, .int .i64 at0, .int .i64 (k : Int)] W fun e w' => ∃ v, e = .returned v ∧ SqVal W.heap.size w' v (rdL B at0 (goodA P 4 at0 k)) ∧ Below W.heap.size W w' := fun W g => (rfetched_ok P p pc B q qc at0 k W (h.perm.up g) (h.byte.up g) hs hn).mono fun e w' ⟨v, h1, h2, h3⟩ => ⟨v, h1, sq_of_own (rdL_len _ _ _) h2, h3⟩
  generalize rdL B at0 (goodA P 4 at0 k) = X at *
  have h0 : (k : Int) ≤ 2048 := by omega
  clear h hs hn
  go_enter Try.func30, Try.ntmps30
  go_wp2_with first | (go_at_call 22; (refine (C1 _ (Gr.below (by repeat (first | (with_reducible exact Gr.refl _) | with_reducible refine Gr.alloc ?_ _ | with_reducible refine Gr.more ?_ _ _ | with_reducible refine Gr.setCell ?_ (by dsimp only; omega) _ | with_reducible refine Gr.drew ?_)))).mono ?_); rintro e w1 ⟨rfl, hb⟩; obtain ⟨os, n', rfl⟩ := Below.moreE hb; clear hb) | (go_at_call 62; (refine (BB _ (Gr.below (by repeat (first | (with_reducible exact Gr.refl _) | with_reducible refine Gr.alloc ?_ _ | with_reducible refine Gr.more ?_ _ _ | with_reducible refine Gr.setCell ?_ (by dsimp only; omega) _ | with_reducible refine Gr.drew ?_)))).mono ?_); rintro e w1 ⟨_, rfl, ⟨rp, rc, rfl, hr⟩, hb⟩; have hv : SqVal _ w1 (.slice rp _ rc) _ := ⟨rp, rc, rfl, hr⟩; clear hr; obtain ⟨os, n', rfl⟩ := Below.moreE hb; clear hb; (try simp only [World.more_more, World.more_drew, Array.append_assoc, World.size_more, World.size_alloc] at hv))
  refine bodyPost_ret (v := .agg #[.slice rp X.length rc, .int .i64 0, .int .i64 0, .int .i64 0]) (by simp [results, go_sem, *]) rfl ?_
  exact ⟨_, rfl, (hv.of (fun hv => by repeat (first | (with_reducible exact hv) | with_reducible refine SqVal.al ?_ _ | with_reducible refine SqVal.mo ?_ _ _ | with_reducible refine SqVal.set ?_ (by (try dsimp only); (try simp only [World.size_more, World.size_alloc, World.size_setCell, World.size_drew, Array.size_append]); omega) _)) (by (try simp only [World.size_more, World.size_alloc, World.size_setCell, World.size_drew, Array.size_append]); omega)), (Gr.below (by repeat (first | (with_reducible exact Gr.refl _) | with_reducible refine Gr.alloc ?_ _ | with_reducible refine Gr.more ?_ _ _ | with_reducible refine Gr.setCell ?_ (by dsimp only; omega) _ | with_reducible refine Gr.drew ?_)))⟩
end Go.Proofs.Ytnapbpfofpaakaa

namespace Go.Proofs.Ytnapbpfofpaakaa
open Go.RowKit

def RString (P : List Int) (B : List UInt8) (at0 n : Int) (X : List UInt8) (K A E : Int) : Prop := ∀ w p pc q qc, SpAt w P p B q qc → Calls Try.prog 32 #[spV p P.length pc q B.length qc, .int .i64 at0, .int .i64 n] w fun e w' => e = .returned (.agg #[.string ⟨X.toArray⟩, .int .i64 K, .int .i64 A, .int .i64 E]) ∧ Below w.heap.size w w'

set_option maxRecDepth 100000 in
set_option maxHeartbeats 4000000 in
theorem rString_bad {P : List Int} {B : List UInt8} (hs : spB P B.length = false) (at0 n : Int) : RString P B at0 n [] 0 0 30 := by
  intro w p pc q qc h
  have C1 : ∀ W, Below w.heap.size w W → Calls Try.prog 22 #[spV p P.length pc q B.length qc] W fun e w' => e = .returned (.int .i64 (spE P B.length)) ∧ Below W.heap.size W w' := fun W g => rcheck3_any P p pc q B.length qc W (h.perm.up g)
  rw [spE_bad hs] at C1
  clear h hs
  go_enter Try.func32, Try.ntmps32
  go_wp2_with (go_at_call 22; (refine (C1 _ (Gr.below (by repeat (first | (with_reducible exact Gr.refl _) | with_reducible refine Gr.alloc ?_ _ | with_reducible refine Gr.more ?_ _ _ | with_reducible refine Gr.setCell ?_ (by dsimp only; omega) _ | with_reducible refine Gr.drew ?_)))).mono ?_); rintro e w1 ⟨rfl, hb⟩; obtain ⟨os, n', rfl⟩ := Below.moreE hb; clear hb)
  refine bodyPost_ret (v := .agg #[.string ⟨#[]⟩, .int .i64 0, .int .i64 0, .int .i64 30]) (by simp [results, go_sem, *]) rfl ?_
  exact ⟨rfl, (Gr.below (by repeat (first | (with_reducible exact Gr.refl _) | with_reducible refine Gr.alloc ?_ _ | with_reducible refine Gr.more ?_ _ _ | with_reducible refine Gr.setCell ?_ (by dsimp only; omega) _ | with_reducible refine Gr.drew ?_)))⟩

set_option maxRecDepth 100000 in
set_option maxHeartbeats 4000000 in
theorem rString_lo {P : List Int} {B : List UInt8} (hs : spB P B.length = true) (at0 n : Int) (hn : n < 0) : RString P B at0 n [] 0 0 1 := by
  intro w p pc q qc h
  have C1 : ∀ W, Below w.heap.size w W → Calls Try.prog 22 #[spV p P.length pc q B.length qc] W fun e w' => e = .returned (.int .i64 (spE P B.length)) ∧ Below W.heap.size W w' := fun W g => rcheck3_any P p pc q B.length qc W (h.perm.up g)
  rw [spE_ok hs] at C1
  clear h hs
  go_enter Try.func32, Try.ntmps32
  go_wp2_with (go_at_call 22; (refine (C1 _ (Gr.below (by repeat (first | (with_reducible exact Gr.refl _) | with_reducible refine Gr.alloc ?_ _ | with_reducible refine Gr.more ?_ _ _ | with_reducible refine Gr.setCell ?_ (by dsimp only; omega) _ | with_reducible refine Gr.drew ?_)))).mono ?_); rintro e w1 ⟨rfl, hb⟩; obtain ⟨os, n', rfl⟩ := Below.moreE hb; clear hb)
  refine bodyPost_ret (v := .agg #[.string ⟨#[]⟩, .int .i64 0, .int .i64 0, .int .i64 1]) (by simp [results, go_sem, *]) rfl ?_
  exact ⟨rfl, (Gr.below (by repeat (first | (with_reducible exact Gr.refl _) | with_reducible refine Gr.alloc ?_ _ | with_reducible refine Gr.more ?_ _ _ | with_reducible refine Gr.setCell ?_ (by dsimp only; omega) _ | with_reducible refine Gr.drew ?_)))⟩

set_option maxRecDepth 100000 in
set_option maxHeartbeats 4000000 in
theorem rString_hi {P : List Int} {B : List UInt8} (hs : spB P B.length = true) (at0 n : Int) (hn : 64 < n) : RString P B at0 n [] 0 0 1 := by
  intro w p pc q qc h
  have C1 : ∀ W, Below w.heap.size w W → Calls Try.prog 22 #[spV p P.length pc q B.length qc] W fun e w' => e = .returned (.int .i64 (spE P B.length)) ∧ Below W.heap.size W w' := fun W g => rcheck3_any P p pc q B.length qc W (h.perm.up g)
  rw [spE_ok hs] at C1
  have hn0 : ¬ n < 0 := by omega
  clear h hs
  go_enter Try.func32, Try.ntmps32
  go_wp2_with (go_at_call 22; (refine (C1 _ (Gr.below (by repeat (first | (with_reducible exact Gr.refl _) | with_reducible refine Gr.alloc ?_ _ | with_reducible refine Gr.more ?_ _ _ | with_reducible refine Gr.setCell ?_ (by dsimp only; omega) _ | with_reducible refine Gr.drew ?_)))).mono ?_); rintro e w1 ⟨rfl, hb⟩; obtain ⟨os, n', rfl⟩ := Below.moreE hb; clear hb)
  refine bodyPost_ret (v := .agg #[.string ⟨#[]⟩, .int .i64 0, .int .i64 0, .int .i64 1]) (by simp [results, go_sem, *]) rfl ?_
  exact ⟨rfl, (Gr.below (by repeat (first | (with_reducible exact Gr.refl _) | with_reducible refine Gr.alloc ?_ _ | with_reducible refine Gr.more ?_ _ _ | with_reducible refine Gr.setCell ?_ (by dsimp only; omega) _ | with_reducible refine Gr.drew ?_)))⟩

theorem rString_arg {P : List Int} {B : List UInt8} (hs : spB P B.length = true) (at0 n : Int) (hn : n < 0 ∨ 64 < n) : RString P B at0 n [] 0 0 1 := by
  rcases hn with h | h
  · exact rString_lo hs at0 n h
  · exact rString_hi hs at0 n h
theorem retT {s s' : ByteArray} {k k' a a' : Int} (hs : s = s') (hk : k = k') (ha : a = a') : Ending.returned (.agg #[.string s, .int .i64 k, .int .i64 a, .int .i64 0]) = .returned (.agg #[.string s', .int .i64 k', .int .i64 a', .int .i64 0]) := by rw [hs, hk, ha]
/-- What String answers: its text, and its fault. -/
def sX (P : List Int) (B : List UInt8) (at0 : Int) (n : Nat) : List UInt8 := if sK P B at0 n = 0 then rdL B at0 (sG P B at0 n) else []

set_option maxRecDepth 100000 in
set_option maxHeartbeats 4000000 in
theorem rString_k {P : List Int} {B : List UInt8} (hs : spB P B.length = true) (at0 : Int) {n : Int} {k : Nat} (hk : n = k) (hn : k ≤ 64) : RString P B at0 n (sX P B at0 k) (sK P B at0 k) (sA P B at0 k) 0 := by
  intro w p pc q qc h
  subst hk
  have C1 : ∀ W, Below w.heap.size w W → Calls Try.prog 22 #[spV p P.length pc q B.length qc] W fun e w' => e = .returned (.int .i64 (spE P B.length)) ∧ Below W.heap.size W w' := fun W g => rcheck3_any P p pc q B.length qc W (h.perm.up g)
  rw [spE_ok hs] at C1
  obtain ⟨hl1, hl2⟩ := spB_len hs
  have HL := Lib.hid hl2
  have HQ : ∀ W, Below w.heap.size w W → SeqAt W q (bV B) := fun W g => h.byte.up g
  have HQ := Lib.hid HQ
  have hcap := h.cap
  have FA : ∀ a W, Below w.heap.size w W → Calls Try.prog 61 #[spV p P.length pc q B.length qc, .int .i64 a, .int .i64 1, .int .i64 1] W fun e w' => e = .returned (ftV (fltK P 1 a 1) (fltA P 1 a 1)) ∧ Below W.heap.size W w' := fun a W g => rfault_any P p pc B q qc a 1 1 (by decide) W (h.perm.up g) hs (by decide)
  have HF := Lib.hid FA
  have hn2 : (k : Int) ≤ 64 := by omega
  have hB2 : (B.length : Int) ≤ 2048 := by omega
  have hqc : (B.length : Int) ≤ (qc : Int) := by omega
  clear h hs hl2 FA hcap
  go_enter Try.func32, Try.ntmps32
  go_wp2_with (go_at_call 22; (refine (C1 _ (Gr.below (by repeat (first | (with_reducible exact Gr.refl _) | with_reducible refine Gr.alloc ?_ _ | with_reducible refine Gr.more ?_ _ _ | with_reducible refine Gr.setCell ?_ (by dsimp only; omega) _ | with_reducible refine Gr.drew ?_)))).mono ?_); rintro e w1 ⟨rfl, hb⟩; obtain ⟨os, n', rfl⟩ := Below.moreE hb; clear hb)
  clear C1
  go_loopw [7, 8] (fun l i wr => ∃ (t : ByteArray) (j : Nat), l = .string t ∧ j ≤ k ∧ i = .int .i64 (j : Int) ∧ Hid (t = ⟨(rdL B at0 j).toArray⟩) ∧ t.size ≤ 64 ∧ Hid (∀ i, i < j → kindA P 1 (adr at0 i) = 0) ∧ Hid (∀ i, i < j → rdA B at0 i ≠ 0) ∧ wr.cell? ⟨w.heap.size, 0, none⟩ = some (.slice p P.length pc) ∧ wr.cell? ⟨w.heap.size, 1, none⟩ = some (.slice q B.length qc) ∧ wr.cell? ⟨w.heap.size + 1, 0, none⟩ = some (.string ⟨#[]⟩) ∧ wr.cell? ⟨w.heap.size + 1, 1, none⟩ = some (.int .i64 0) ∧ wr.cell? ⟨w.heap.size + 1, 2, none⟩ = some (.int .i64 0) ∧ wr.cell? ⟨w.heap.size + 1, 3, none⟩ = some (.int .i64 0) ∧ wr.frozen? ⟨w.heap.size + 1, 0, none⟩ = false ∧ wr.frozen? ⟨w.heap.size + 1, 1, none⟩ = false ∧ wr.frozen? ⟨w.heap.size + 1, 2, none⟩ = false ∧ wr.frozen? ⟨w.heap.size + 1, 3, none⟩ = false ∧ w.heap.size + 1 < wr.heap.size ∧ Gr w.heap.size w wr) (fun _ i _ => k - (intOf i).toNat)
  case atStart => exact ⟨⟨#[]⟩, 0, rfl, Nat.zero_le _, rfl, Lib.hid rfl, by decide, Lib.hid (fun j hj => by omega), Lib.hid (fun j hj => by omega), by go_simp, by go_simp, by go_simp, by go_simp, by go_simp, by go_simp, by go_simp, by go_simp, by go_simp, by go_simp, by (try simp only [World.size_more, World.size_alloc, World.size_setCell, World.size_drew, Array.size_append]); omega, by repeat (first | (with_reducible exact Gr.refl _) | with_reducible refine Gr.alloc ?_ _ | with_reducible refine Gr.more ?_ _ _)⟩
  case round =>
    obtain ⟨t, j, rfl, hj, rfl, ht, htz, hok, hnz, c0, c1, r0, r1, r2, r3, f0, f1, f2, f3, hz, hG⟩ := hrel
    by_cases hlt : j < k
    · have hlt' : (j : Int) < (k : Int) := by omega
      have hk0 : (0 : Int) ≤ (j : Int) := by omega
      have hw1 : wrap64 ((j : Int) + 1) = (j : Int) + 1 := by unfold wrap64; omega
      have hK1 : fltK P 1 (adr at0 j) 1 = kindA P 1 (adr at0 j) := by rw [fltK_one, adr_adr0]
      have hA1 : fltA P 1 (adr at0 j) 1 = if kindA P 1 (adr at0 j) = 0 then 0 else adr at0 j := by rw [fltA_one, adr_adr0]
      have FF := HF.out (adr at0 j)
      rw [hK1, hA1] at FF
      obtain ⟨a, ha⟩ : ∃ a, adr at0 j = a := ⟨_, rfl⟩
      have HA := Lib.hid ha
      have ha' : wrap64 (at0 + (j : Int)) = a := ha
      rw [ha] at FF
      have lw : w.heap.size < wr.heap.size := by omega
      clear ha hK1 hA1
      by_cases hk : kindA P 1 a = 0
      · rw [hk, if_pos rfl] at FF
        obtain ⟨h0, h1⟩ := kind_in hk
        have hmB : a.toNat < B.length := by have := HL.out; omega
        have hmi : a < (B.length : Int) := by omega
        have hw2 : wrap64 (a + 1) = a + 1 := by unfold wrap64; omega
        obtain ⟨b2, o2, rfl, e2⟩ := seqAt_neK (HQ.out wr hG.below) (by intro e; have := congrArg List.length e; rw [bV_len] at this; simp at this; rw [this] at hmB; simp at hmB)
        have d2 := e2 _ _ (bV_get B _ hmB)
        have lb2 := lt_of_cell d2
        have hrd : rdA B at0 j = B[a.toNat] := by simp [rdA, HA.out, List.getD, hmB]
        clear e2
        by_cases hy : B[a.toNat] = 0
        · have hy0 : ((B[a.toNat].toNat : Int)) = 0 := by rw [hy]; rfl
          have hg := sG_of (n := k) hok.out hnz.out (.inr ⟨hlt, .inr (by rw [hrd]; exact hy)⟩)
          have hKz : sK P B at0 k = 0 := by simp [sK, hg, HA.out, hk]
          have HX : Hid (t = ⟨(sX P B at0 k).toArray⟩ ∧ sK P B at0 k = 0 ∧ sA P B at0 k = 0) := Lib.hid ⟨by rw [sX, if_pos hKz, hg]; exact ht.out, hKz, by simp [sA, hKz]⟩
          rw [hy0] at d2
          clear hok hnz ht hk hy hy0 hrd hg hKz
          go_wp2_with (go_at_call 61; (refine (FF _ (Gr.below (by repeat (first | (with_reducible exact hG) | with_reducible refine Gr.alloc ?_ _ | with_reducible refine Gr.more ?_ _ _ | with_reducible refine Gr.setCell ?_ (by dsimp only; (try simp only [World.size_more, World.size_alloc, World.size_setCell, World.size_drew, Array.size_append]); omega) _ | with_reducible refine Gr.drew ?_)))).mono ?_); rintro e w1 ⟨rfl, hb⟩; obtain ⟨os, n', rfl⟩ := Below.moreE hb; clear hb)
          refine bodyPost_ret (v := .agg #[.string t, .int .i64 0, .int .i64 0, .int .i64 0]) (by simp [results, go_sem, *]) rfl ?_
          exact ⟨retT HX.out.1 HX.out.2.1.symm HX.out.2.2.symm, Gr.below (by repeat (first | (with_reducible exact hG) | with_reducible refine Gr.alloc ?_ _ | with_reducible refine Gr.more ?_ _ _ | with_reducible refine Gr.setCell ?_ (by dsimp only; (try simp only [World.size_more, World.size_alloc, World.size_setCell, World.size_drew, Array.size_append]); omega) _ | with_reducible refine Gr.drew ?_))⟩
        · have hst : Hid (∀ i, i < j + 1 → kindA P 1 (adr at0 i) = 0) := Lib.hid (fun i hi => by
            by_cases e : i = j
            · subst e; rw [HA.out]; exact hk
            · exact hok.out i (by omega))
          have hst2 : Hid (∀ i, i < j + 1 → rdA B at0 i ≠ 0) := Lib.hid (fun i hi => by
            by_cases e : i = j
            · subst e; rw [hrd]; exact hy
            · exact hnz.out i (by omega))
          have hy' : ((B[a.toNat].toNat : Int) == 0) = false := by
            rw [beq_eq_false_iff_ne]
            intro e
            exact hy (UInt8.toNat_inj.1 (by simpa using e))
          obtain ⟨u, hu⟩ : ∃ u : ByteArray, u = ⟨[B[a.toNat]].toArray⟩ := ⟨_, rfl⟩
          have HT : Hid (t ++ u = ⟨(rdL B at0 (j + 1)).toArray⟩) := by
            refine Lib.hid ?_
            rw [ht.out, hu, rdL_snoc, hrd]
            apply ByteArray.ext
            simp
          have huz : u.size = 1 := by rw [hu]; rfl
          have CV : ∀ os n' c, (convert 23 9 (.slice (some ⟨b2, o2 + a.toNat, none⟩) ((a + 1).toNat - a.toNat) c)).run Try.prog ((wr.more os n').alloc (.cells #[.int .i64 0, .int .i64 0] 34)) = .ok (.string u) ((wr.more os n').alloc (.cells #[.int .i64 0, .int .i64 0] 34)) := fun os n' c => by
            have := conv_any [B[a.toNat]] (some ⟨b2, o2 + a.toNat, none⟩) c ((wr.more os n').alloc (.cells #[.int .i64 0, .int .i64 0] 34)) (.inr ⟨b2, o2 + a.toNat, rfl, fun i v hi => by
              match i, hi with
              | 0, hi =>
                rw [Nat.add_zero]
                have hv : v = .int .u8 (B[a.toNat].toNat : Int) := by simpa [bV] using hi.symm
                rw [hv]
                exact cell_up (Gr.below (Gr.alloc (Gr.more (Gr.refl wr) os n') _)) lb2 d2
              | i + 1, hi => simp [bV] at hi⟩)
            rw [← hu] at this
            rw [show (a + 1).toNat - a.toNat = 1 by omega]
            exact this
          have hrz : t.size + u.size ≤ 65 := by omega
          have HZ : Hid ((t ++ u).size ≤ 64) := by
            refine Lib.hid ?_
            rw [HT.out]
            show (rdL B at0 (j + 1)).toArray.size ≤ 64
            rw [List.size_toArray, rdL_len]
            omega
          clear hok hnz ht hk hy hrd hu
          generalize (B[a.toNat].toNat : Int) = y at *
          go_wp2_with (go_at_call 61; (refine (FF _ (Gr.below (by repeat (first | (with_reducible exact hG) | with_reducible refine Gr.alloc ?_ _ | with_reducible refine Gr.more ?_ _ _ | with_reducible refine Gr.setCell ?_ (by dsimp only; (try simp only [World.size_more, World.size_alloc, World.size_setCell, World.size_drew, Array.size_append]); omega) _ | with_reducible refine Gr.drew ?_)))).mono ?_); rintro e w1 ⟨rfl, hb⟩; obtain ⟨os, n', rfl⟩ := Below.moreE hb; clear hb)
          go_roundw
          case rel => exact ⟨t ++ u, j + 1, by first | rfl | go_num, by omega, by go_num, HT, HZ.out, hst, hst2, by go_simp, by go_simp, by go_simp, by go_simp, by go_simp, by go_simp, by go_simp, by go_simp, by go_simp, by go_simp, by (try simp only [World.size_more, World.size_alloc, World.size_setCell, World.size_drew, Array.size_append]); omega, (by repeat (first | (with_reducible exact hG) | with_reducible refine Gr.alloc ?_ _ | with_reducible refine Gr.more ?_ _ _ | with_reducible refine Gr.setCell ?_ (by dsimp only; (try simp only [World.size_more, World.size_alloc, World.size_setCell, World.size_drew, Array.size_append]); omega) _ | with_reducible refine Gr.drew ?_))⟩
          case measure => simp [intOf]; omega
      · rw [if_neg hk] at FF
        have hg := sG_of (n := k) (B := B) hok.out hnz.out (.inr ⟨hlt, .inl (by rw [HA.out]; exact hk)⟩)
        have hne : j ≠ k := by omega
        have hKz : sK P B at0 k = kindA P 1 a := by simp [sK, hg, HA.out, hne]
        have HX : Hid ((⟨#[]⟩ : ByteArray) = ⟨(sX P B at0 k).toArray⟩ ∧ kindA P 1 a = sK P B at0 k ∧ a = sA P B at0 k) := Lib.hid ⟨by rw [sX, if_neg (by rw [hKz]; exact hk)], hKz.symm, by rw [sA, if_neg (by rw [hKz]; exact hk), hg, HA.out]⟩
        have hk' : (kindA P 1 a != 0) = true := bne_iff_ne.2 hk
        clear hok hnz ht hk hg hKz
        generalize kindA P 1 a = K at *
        go_wp2_with (go_at_call 61; (refine (FF _ (Gr.below (by repeat (first | (with_reducible exact hG) | with_reducible refine Gr.alloc ?_ _ | with_reducible refine Gr.more ?_ _ _ | with_reducible refine Gr.setCell ?_ (by dsimp only; (try simp only [World.size_more, World.size_alloc, World.size_setCell, World.size_drew, Array.size_append]); omega) _ | with_reducible refine Gr.drew ?_)))).mono ?_); rintro e w1 ⟨rfl, hb⟩; obtain ⟨os, n', rfl⟩ := Below.moreE hb; clear hb)
        refine bodyPost_ret (v := .agg #[.string ⟨#[]⟩, .int .i64 K, .int .i64 a, .int .i64 0]) (by simp [results, go_sem, *]) rfl ?_
        exact ⟨retT HX.out.1 HX.out.2.1 HX.out.2.2, Gr.below (by repeat (first | (with_reducible exact hG) | with_reducible refine Gr.alloc ?_ _ | with_reducible refine Gr.more ?_ _ _ | with_reducible refine Gr.setCell ?_ (by dsimp only; (try simp only [World.size_more, World.size_alloc, World.size_setCell, World.size_drew, Array.size_append]); omega) _ | with_reducible refine Gr.drew ?_))⟩
    · obtain rfl : j = k := by omega
      have hg := sG_of (n := j) hok.out hnz.out (.inl rfl)
      have hKz : sK P B at0 j = 0 := by simp [sK, hg]
      have HX : Hid (t = ⟨(sX P B at0 j).toArray⟩ ∧ sK P B at0 j = 0 ∧ sA P B at0 j = 0) := Lib.hid ⟨by rw [sX, if_pos hKz, hg]; exact ht.out, hKz, by simp [sA, hKz]⟩
      clear hok hnz ht hg hKz
      go_wp2_with fail
      refine bodyPost_ret (v := .agg #[.string t, .int .i64 0, .int .i64 0, .int .i64 0]) (by simp [results, go_sem, *]) rfl ?_
      exact ⟨retT HX.out.1 HX.out.2.1.symm HX.out.2.2.symm, Gr.below (by repeat (first | (with_reducible exact hG) | with_reducible refine Gr.alloc ?_ _ | with_reducible refine Gr.more ?_ _ _ | with_reducible refine Gr.setCell ?_ (by dsimp only; (try simp only [World.size_more, World.size_alloc, World.size_setCell, World.size_drew, Array.size_append]); omega) _ | with_reducible refine Gr.drew ?_))⟩
end Go.Proofs.Ytnapbpfofpaakaa

namespace Go.Proofs.Ytnapbpfofpaakaa
open Go.RowKit

theorem SqVal.conv {lo : Nat} {W : World} {p : Option Addr} {c : Nat} {X : List UInt8} (h : SqVal lo W (.slice p X.length c) X) : (convert 23 9 (.slice p X.length c)).run Try.prog W = .ok (.string ⟨X.toArray⟩) W := by
  obtain ⟨p', c', h1, h2⟩ := h
  simp only [Value.slice.injEq] at h1
  obtain ⟨rfl, _, _⟩ := h1
  exact conv_any X p c W h2.at
/-- A fact of the world at hand, in the walk's own spelling. -/
theorem wp_fact {c : Code} {a : Act} {W : World} {Q : Exit → Act → World → Prop} (F : World → Prop) (h : F W) (k : F W → Code.wp Try.prog c Q a W) : Code.wp Try.prog c Q a W := k h
def MStr (P : List Int) (B : List UInt8) (at0 n : Int) (t : ByteArray) (K A E : Int) : Prop := ∀ w p pc q qc, SpAt w P p B q qc → Calls Try.prog 28 #[spV p P.length pc q B.length qc, .int .i64 at0, .int .i64 n] w fun e w' => e = .returned (.tuple #[.string t, ftV K A, .int .i64 E]) ∧ Below w.heap.size w w'
def RStr (P : List Int) (B : List UInt8) (at0 n : Int) (t : ByteArray) (K A E : Int) : Prop := ∀ w p pc q qc, SpAt w P p B q qc → Calls Try.prog 32 #[spV p P.length pc q B.length qc, .int .i64 at0, .int .i64 n] w fun e w' => e = .returned (.agg #[.string t, .int .i64 K, .int .i64 A, .int .i64 E]) ∧ Below w.heap.size w w'

set_option maxRecDepth 100000 in
set_option maxHeartbeats 4000000 in
theorem reads_core (w : World) (P : List Int) (p : Option Addr) (pc : Nat) (B : List UInt8) (q : Option Addr) (qc : Nat) (hS : SpAt w P p B q qc) (i n m : Int) {K A E : Int} {X2 : List UInt8} {E2 : Int} {X3 : List UInt8} {K3 A3 E3 : Int} {t : ByteArray} {K4 A4 E4 : Int}
    (M1 : CAcc P B i n m K A E) (M2 : CFetch P B i n X2 E2) (M3 : CPeek P B i n X3 K3 A3 E3) (M4 : MStr P B i n t K4 A4 E4) (R1 : RAcc P B i n m K A E) (R2 : RFetch P B i n X2 E2) (R3 : RPeek P B i n X3 K3 A3 E3) (R4 : RStr P B i n t K4 A4 E4) :
    Calls Try.prog 4 #[spV p P.length pc q B.length qc, .agg #[.int .i64 i, .int .i64 n, .int .i64 m]] w fun e w' => e = .returned (.bool true) ∧ Below w.heap.size w w' := by
  have HM1 := fun W (h : Below w.heap.size w W) => M1 W p pc q qc (hS.up h)
  have HM2 := fun W (h : Below w.heap.size w W) => M2 W p pc q qc (hS.up h)
  have HM3 := fun W (h : Below w.heap.size w W) => M3 W p pc q qc (hS.up h)
  have HM4 := fun W (h : Below w.heap.size w W) => M4 W p pc q qc (hS.up h)
  have HR1 := fun W (h : Below w.heap.size w W) => R1 W p pc q qc (hS.up h)
  have HR2 := fun W (h : Below w.heap.size w W) => R2 W p pc q qc (hS.up h)
  have HR3 := fun W (h : Below w.heap.size w W) => R3 W p pc q qc (hS.up h)
  have HR4 := fun W (h : Below w.heap.size w W) => R4 W p pc q qc (hS.up h)
  clear M1 M2 M3 M4 R1 R2 R3 R4 hS
  go_enter Try.func4, Try.ntmps4
  go_upto_region 10 with (first | (go_at_call 14; (refine (msane_any _).mono ?_); rintro e w1 ⟨rfl, hb⟩; obtain ⟨os, n', rfl⟩ := Below.moreE hb; clear hb) | (go_at_call 25; (refine (HM1 _ (Gr.below (by repeat (first | (with_reducible exact Gr.refl _) | with_reducible refine Gr.alloc ?_ _ | with_reducible refine Gr.more ?_ _ _ | with_reducible refine Gr.setCell ?_ (by dsimp only; omega) _ | with_reducible refine Gr.drew ?_)))).mono ?_); rintro e w1 ⟨rfl, hb⟩; obtain ⟨os, n', rfl⟩ := Below.moreE hb; clear hb) | (go_at_call 26; (refine (HM2 _ (Gr.below (by repeat (first | (with_reducible exact Gr.refl _) | with_reducible refine Gr.alloc ?_ _ | with_reducible refine Gr.more ?_ _ _ | with_reducible refine Gr.setCell ?_ (by dsimp only; omega) _ | with_reducible refine Gr.drew ?_)))).mono ?_); rintro e w1 ⟨_, rfl, ⟨vap, vac, rfl, var⟩, hb⟩; have va : SqVal _ w1 (.slice vap _ vac) _ := ⟨vap, vac, rfl, var⟩; clear var; obtain ⟨os, n', rfl⟩ := Below.moreE hb; clear hb; (try simp only [World.more_more, World.more_drew, Array.append_assoc] at va)) | (go_at_call 27; (refine (HM3 _ (Gr.below (by repeat (first | (with_reducible exact Gr.refl _) | with_reducible refine Gr.alloc ?_ _ | with_reducible refine Gr.more ?_ _ _ | with_reducible refine Gr.setCell ?_ (by dsimp only; omega) _ | with_reducible refine Gr.drew ?_)))).mono ?_); rintro e w1 ⟨_, rfl, ⟨vbp, vbc, rfl, vbr⟩, hb⟩; have vb : SqVal _ w1 (.slice vbp _ vbc) _ := ⟨vbp, vbc, rfl, vbr⟩; clear vbr; replace va := SqVal.up (Gr.trans (by repeat (first | (with_reducible exact Gr.refl _) | with_reducible refine Gr.alloc ?_ _ | with_reducible refine Gr.more ?_ _ _ | with_reducible refine Gr.setCell ?_ (by dsimp only; (try simp only [World.size_more, World.size_alloc, World.size_setCell, World.size_drew, Array.size_append]); omega) _ | with_reducible refine Gr.drew ?_)) (Gr.of hb)) va; obtain ⟨os, n', rfl⟩ := Below.moreE hb; clear hb; (try simp only [World.more_more, World.more_drew, Array.append_assoc] at va); (try simp only [World.more_more, World.more_drew, Array.append_assoc] at vb)) | (go_at_call 28; (refine (HM4 _ (Gr.below (by repeat (first | (with_reducible exact Gr.refl _) | with_reducible refine Gr.alloc ?_ _ | with_reducible refine Gr.more ?_ _ _ | with_reducible refine Gr.setCell ?_ (by dsimp only; omega) _ | with_reducible refine Gr.drew ?_)))).mono ?_); rintro e w1 ⟨rfl, hb⟩; replace va := SqVal.up (Gr.trans (by repeat (first | (with_reducible exact Gr.refl _) | with_reducible refine Gr.alloc ?_ _ | with_reducible refine Gr.more ?_ _ _ | with_reducible refine Gr.setCell ?_ (by dsimp only; (try simp only [World.size_more, World.size_alloc, World.size_setCell, World.size_drew, Array.size_append]); omega) _ | with_reducible refine Gr.drew ?_)) (Gr.of hb)) va; replace vb := SqVal.up (Gr.trans (by repeat (first | (with_reducible exact Gr.refl _) | with_reducible refine Gr.alloc ?_ _ | with_reducible refine Gr.more ?_ _ _ | with_reducible refine Gr.setCell ?_ (by dsimp only; (try simp only [World.size_more, World.size_alloc, World.size_setCell, World.size_drew, Array.size_append]); omega) _ | with_reducible refine Gr.drew ?_)) (Gr.of hb)) vb; obtain ⟨os, n', rfl⟩ := Below.moreE hb; clear hb; (try simp only [World.more_more, World.more_drew, Array.append_assoc] at va); (try simp only [World.more_more, World.more_drew, Array.append_assoc] at vb)) | (go_at_call 29; (refine (HR1 _ (Gr.below (by repeat (first | (with_reducible exact Gr.refl _) | with_reducible refine Gr.alloc ?_ _ | with_reducible refine Gr.more ?_ _ _ | with_reducible refine Gr.setCell ?_ (by dsimp only; omega) _ | with_reducible refine Gr.drew ?_)))).mono ?_); rintro e w1 ⟨rfl, hb⟩; replace va := SqVal.up (Gr.trans (by repeat (first | (with_reducible exact Gr.refl _) | with_reducible refine Gr.alloc ?_ _ | with_reducible refine Gr.more ?_ _ _ | with_reducible refine Gr.setCell ?_ (by dsimp only; (try simp only [World.size_more, World.size_alloc, World.size_setCell, World.size_drew, Array.size_append]); omega) _ | with_reducible refine Gr.drew ?_)) (Gr.of hb)) va; replace vb := SqVal.up (Gr.trans (by repeat (first | (with_reducible exact Gr.refl _) | with_reducible refine Gr.alloc ?_ _ | with_reducible refine Gr.more ?_ _ _ | with_reducible refine Gr.setCell ?_ (by dsimp only; (try simp only [World.size_more, World.size_alloc, World.size_setCell, World.size_drew, Array.size_append]); omega) _ | with_reducible refine Gr.drew ?_)) (Gr.of hb)) vb; obtain ⟨os, n', rfl⟩ := Below.moreE hb; clear hb; (try simp only [World.more_more, World.more_drew, Array.append_assoc] at va); (try simp only [World.more_more, World.more_drew, Array.append_assoc] at vb)) | (go_at_call 30; (refine (HR2 _ (Gr.below (by repeat (first | (with_reducible exact Gr.refl _) | with_reducible refine Gr.alloc ?_ _ | with_reducible refine Gr.more ?_ _ _ | with_reducible refine Gr.setCell ?_ (by dsimp only; omega) _ | with_reducible refine Gr.drew ?_)))).mono ?_); rintro e w1 ⟨_, rfl, ⟨vcp, vcc, rfl, vcr⟩, hb⟩; have vc : SqVal _ w1 (.slice vcp _ vcc) _ := ⟨vcp, vcc, rfl, vcr⟩; clear vcr; replace va := SqVal.up (Gr.trans (by repeat (first | (with_reducible exact Gr.refl _) | with_reducible refine Gr.alloc ?_ _ | with_reducible refine Gr.more ?_ _ _ | with_reducible refine Gr.setCell ?_ (by dsimp only; (try simp only [World.size_more, World.size_alloc, World.size_setCell, World.size_drew, Array.size_append]); omega) _ | with_reducible refine Gr.drew ?_)) (Gr.of hb)) va; replace vb := SqVal.up (Gr.trans (by repeat (first | (with_reducible exact Gr.refl _) | with_reducible refine Gr.alloc ?_ _ | with_reducible refine Gr.more ?_ _ _ | with_reducible refine Gr.setCell ?_ (by dsimp only; (try simp only [World.size_more, World.size_alloc, World.size_setCell, World.size_drew, Array.size_append]); omega) _ | with_reducible refine Gr.drew ?_)) (Gr.of hb)) vb; obtain ⟨os, n', rfl⟩ := Below.moreE hb; clear hb; (try simp only [World.more_more, World.more_drew, Array.append_assoc] at va); (try simp only [World.more_more, World.more_drew, Array.append_assoc] at vb); (try simp only [World.more_more, World.more_drew, Array.append_assoc] at vc)) | (go_at_call 31; (refine (HR3 _ (Gr.below (by repeat (first | (with_reducible exact Gr.refl _) | with_reducible refine Gr.alloc ?_ _ | with_reducible refine Gr.more ?_ _ _ | with_reducible refine Gr.setCell ?_ (by dsimp only; omega) _ | with_reducible refine Gr.drew ?_)))).mono ?_); rintro e w1 ⟨_, rfl, ⟨vdp, vdc, rfl, vdr⟩, hb⟩; have vd : SqVal _ w1 (.slice vdp _ vdc) _ := ⟨vdp, vdc, rfl, vdr⟩; clear vdr; replace va := SqVal.up (Gr.trans (by repeat (first | (with_reducible exact Gr.refl _) | with_reducible refine Gr.alloc ?_ _ | with_reducible refine Gr.more ?_ _ _ | with_reducible refine Gr.setCell ?_ (by dsimp only; (try simp only [World.size_more, World.size_alloc, World.size_setCell, World.size_drew, Array.size_append]); omega) _ | with_reducible refine Gr.drew ?_)) (Gr.of hb)) va; replace vb := SqVal.up (Gr.trans (by repeat (first | (with_reducible exact Gr.refl _) | with_reducible refine Gr.alloc ?_ _ | with_reducible refine Gr.more ?_ _ _ | with_reducible refine Gr.setCell ?_ (by dsimp only; (try simp only [World.size_more, World.size_alloc, World.size_setCell, World.size_drew, Array.size_append]); omega) _ | with_reducible refine Gr.drew ?_)) (Gr.of hb)) vb; replace vc := SqVal.up (Gr.trans (by repeat (first | (with_reducible exact Gr.refl _) | with_reducible refine Gr.alloc ?_ _ | with_reducible refine Gr.more ?_ _ _ | with_reducible refine Gr.setCell ?_ (by dsimp only; (try simp only [World.size_more, World.size_alloc, World.size_setCell, World.size_drew, Array.size_append]); omega) _ | with_reducible refine Gr.drew ?_)) (Gr.of hb)) vc; obtain ⟨os, n', rfl⟩ := Below.moreE hb; clear hb; (try simp only [World.more_more, World.more_drew, Array.append_assoc] at va); (try simp only [World.more_more, World.more_drew, Array.append_assoc] at vb); (try simp only [World.more_more, World.more_drew, Array.append_assoc] at vc); (try simp only [World.more_more, World.more_drew, Array.append_assoc] at vd)) | (go_at_call 32; (refine (HR4 _ (Gr.below (by repeat (first | (with_reducible exact Gr.refl _) | with_reducible refine Gr.alloc ?_ _ | with_reducible refine Gr.more ?_ _ _ | with_reducible refine Gr.setCell ?_ (by dsimp only; omega) _ | with_reducible refine Gr.drew ?_)))).mono ?_); rintro e w1 ⟨rfl, hb⟩; replace va := SqVal.up (Gr.trans (by repeat (first | (with_reducible exact Gr.refl _) | with_reducible refine Gr.alloc ?_ _ | with_reducible refine Gr.more ?_ _ _ | with_reducible refine Gr.setCell ?_ (by dsimp only; (try simp only [World.size_more, World.size_alloc, World.size_setCell, World.size_drew, Array.size_append]); omega) _ | with_reducible refine Gr.drew ?_)) (Gr.of hb)) va; replace vb := SqVal.up (Gr.trans (by repeat (first | (with_reducible exact Gr.refl _) | with_reducible refine Gr.alloc ?_ _ | with_reducible refine Gr.more ?_ _ _ | with_reducible refine Gr.setCell ?_ (by dsimp only; (try simp only [World.size_more, World.size_alloc, World.size_setCell, World.size_drew, Array.size_append]); omega) _ | with_reducible refine Gr.drew ?_)) (Gr.of hb)) vb; replace vc := SqVal.up (Gr.trans (by repeat (first | (with_reducible exact Gr.refl _) | with_reducible refine Gr.alloc ?_ _ | with_reducible refine Gr.more ?_ _ _ | with_reducible refine Gr.setCell ?_ (by dsimp only; (try simp only [World.size_more, World.size_alloc, World.size_setCell, World.size_drew, Array.size_append]); omega) _ | with_reducible refine Gr.drew ?_)) (Gr.of hb)) vc; replace vd := SqVal.up (Gr.trans (by repeat (first | (with_reducible exact Gr.refl _) | with_reducible refine Gr.alloc ?_ _ | with_reducible refine Gr.more ?_ _ _ | with_reducible refine Gr.setCell ?_ (by dsimp only; (try simp only [World.size_more, World.size_alloc, World.size_setCell, World.size_drew, Array.size_append]); omega) _ | with_reducible refine Gr.drew ?_)) (Gr.of hb)) vd; obtain ⟨os, n', rfl⟩ := Below.moreE hb; clear hb; (try simp only [World.more_more, World.more_drew, Array.append_assoc] at va); (try simp only [World.more_more, World.more_drew, Array.append_assoc] at vb); (try simp only [World.more_more, World.more_drew, Array.append_assoc] at vc); (try simp only [World.more_more, World.more_drew, Array.append_assoc] at vd)))
  refine wp_fact (fun W' => (convert 23 9 (.slice vap (List.length X2) vac)).run Try.prog W' = .ok (.string ⟨(List.toArray X2)⟩) W' ∧ (convert 23 9 (.slice vbp (List.length X3) vbc)).run Try.prog W' = .ok (.string ⟨(List.toArray X3)⟩) W' ∧ (convert 23 9 (.slice vcp (List.length X2) vcc)).run Try.prog W' = .ok (.string ⟨(List.toArray X2)⟩) W' ∧ (convert 23 9 (.slice vdp (List.length X3) vdc)).run Try.prog W' = .ok (.string ⟨(List.toArray X3)⟩) W') ⟨SqVal.conv (SqVal.up (by repeat (first | (with_reducible exact Gr.refl _) | with_reducible refine Gr.alloc ?_ _ | with_reducible refine Gr.more ?_ _ _ | with_reducible refine Gr.setCell ?_ (by dsimp only; (try simp only [World.size_more, World.size_alloc, World.size_setCell, World.size_drew, Array.size_append]); omega) _ | with_reducible refine Gr.drew ?_)) va), SqVal.conv (SqVal.up (by repeat (first | (with_reducible exact Gr.refl _) | with_reducible refine Gr.alloc ?_ _ | with_reducible refine Gr.more ?_ _ _ | with_reducible refine Gr.setCell ?_ (by dsimp only; (try simp only [World.size_more, World.size_alloc, World.size_setCell, World.size_drew, Array.size_append]); omega) _ | with_reducible refine Gr.drew ?_)) vb), SqVal.conv (SqVal.up (by repeat (first | (with_reducible exact Gr.refl _) | with_reducible refine Gr.alloc ?_ _ | with_reducible refine Gr.more ?_ _ _ | with_reducible refine Gr.setCell ?_ (by dsimp only; (try simp only [World.size_more, World.size_alloc, World.size_setCell, World.size_drew, Array.size_append]); omega) _ | with_reducible refine Gr.drew ?_)) vc), SqVal.conv (SqVal.up (by repeat (first | (with_reducible exact Gr.refl _) | with_reducible refine Gr.alloc ?_ _ | with_reducible refine Gr.more ?_ _ _ | with_reducible refine Gr.setCell ?_ (by dsimp only; (try simp only [World.size_more, World.size_alloc, World.size_setCell, World.size_drew, Array.size_append]); omega) _ | with_reducible refine Gr.drew ?_)) vd)⟩ ?_
  rintro ⟨e1, e2, e3, e4⟩
  generalize (⟨X2.toArray⟩ : ByteArray) = t2 at *
  generalize (⟨X3.toArray⟩ : ByteArray) = t3 at *
  have E1 := Lib.hid trivial
  clear va vb vc vd
  go_wp2_with fail
  go_ret
  exact ⟨rfl, (Gr.below (by repeat (first | (with_reducible exact Gr.refl _) | with_reducible refine Gr.alloc ?_ _ | with_reducible refine Gr.more ?_ _ _ | with_reducible refine Gr.setCell ?_ (by dsimp only; omega) _ | with_reducible refine Gr.drew ?_)))⟩

theorem acc_both (P : List Int) (B : List UInt8) (i n m : Int) : ∃ K A E, CAcc P B i n m K A E ∧ RAcc P B i n m K A E := by
  cases hs : spB P B.length
  · exact ⟨_, _, _, cAcc_bad hs i n m, rAcc_bad hs i n m⟩
  by_cases h : n < 0 ∨ 2048 < n ∨ (m ≠ 1 ∧ m ≠ 2 ∧ m ≠ 4)
  · exact ⟨_, _, _, cAcc_arg hs i n m h, rAcc_arg hs i n m h⟩
  · obtain ⟨k, hk⟩ := nat_of (n := n) (by omega)
    exact ⟨_, _, _, cAcc_ok hs i hk (by omega) (by omega), rAcc_ok hs i hk (by omega) (by omega)⟩
theorem fetch_both (P : List Int) (B : List UInt8) (i n : Int) : ∃ X E, CFetch P B i n X E ∧ RFetch P B i n X E := by
  cases hs : spB P B.length
  · exact ⟨_, _, cFetch_bad hs i n, rFetch_bad hs i n⟩
  by_cases h : n < 0 ∨ 2048 < n
  · exact ⟨_, _, cFetch_arg hs i n h, rFetch_arg hs i n h⟩
  · obtain ⟨k, hk⟩ := nat_of (n := n) (by omega)
    exact ⟨_, _, cFetch_ok hs i hk (by omega), rFetch_ok hs i hk (by omega)⟩
theorem peek_both (P : List Int) (B : List UInt8) (i n : Int) : ∃ X K A E, CPeek P B i n X K A E ∧ RPeek P B i n X K A E := by
  cases hs : spB P B.length
  · exact ⟨_, _, _, _, cPeek_bad hs i n, rPeek_bad hs i n⟩
  by_cases h : n < 0 ∨ 2048 < n
  · exact ⟨_, _, _, _, cPeek_arg hs i n h, rPeek_arg hs i n h⟩
  · obtain ⟨k, hk⟩ := nat_of (n := n) (by omega)
    by_cases hf : fltK P 0 i k = 0
    · exact ⟨_, _, _, _, cPeek_ok hs i hk (by omega) hf, rPeek_ok hs i hk (by omega) hf⟩
    · exact ⟨_, _, _, _, cPeek_flt hs i hk (by omega) hf, rPeek_flt hs i hk (by omega) hf⟩
theorem string_both (P : List Int) (B : List UInt8) (i n : Int) : ∃ t K A E, MStr P B i n t K A E ∧ RStr P B i n t K A E := by
  cases hs : spB P B.length
  · exact ⟨_, _, _, _, cString_bad hs i n, rString_bad hs i n⟩
  by_cases h : n < 0 ∨ 64 < n
  · exact ⟨_, _, _, _, cString_arg hs i n h, rString_arg hs i n h⟩
  · obtain ⟨k, hk⟩ := nat_of (n := n) (by omega)
    have R := rString_k hs i hk (by omega)
    by_cases hf : sK P B i k = 0
    · have M := cString_ok hs i hk (by omega) hf
      rw [sX, if_pos hf, sA, if_pos hf, hf] at R
      exact ⟨_, _, _, _, M, R⟩
    · have M := cString_flt hs i hk (by omega) hf
      rw [sX, if_neg hf] at R
      exact ⟨_, _, _, _, M, R⟩
theorem law_reads (w : World) (P : List Int) (p : Option Addr) (pc : Nat) (B : List UInt8) (q : Option Addr) (qc : Nat) (hS : SpIn 0 w.heap.size w P p B q qc) (i n m : Int) (_ : I64 i) (_ : I64 n) (_ : I64 m) :
    Calls Try.prog 4 #[spV p P.length pc q B.length qc, .agg #[.int .i64 i, .int .i64 n, .int .i64 m]] w fun e w' => e = .returned (.bool true) ∧ Below w.heap.size w w' := by
  obtain ⟨K, A, E, M1, R1⟩ := acc_both P B i n m
  obtain ⟨X2, E2, M2, R2⟩ := fetch_both P B i n
  obtain ⟨X3, K3, A3, E3, M3, R3⟩ := peek_both P B i n
  obtain ⟨t, K4, A4, E4, M4, R4⟩ := string_both P B i n
  exact reads_core w P p pc B q qc hS.at i n m M1 M2 M3 M4 R1 R2 R3 R4
end Go.Proofs.Ytnapbpfofpaakaa
