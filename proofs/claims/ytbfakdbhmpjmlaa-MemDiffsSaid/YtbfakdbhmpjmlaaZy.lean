/-
  Layer 3, the laws: Diff's list; the bytes of Peek as a row of their own.
-/
import Derived.Test.YtbfakdbhmpjmlaaZr
import Derived.Test.YtbfakdbhmpjmlaaGC
import Derived.Test.YtbfakdbhmpjmlaaGA
namespace Go.Proofs.Ytbfakdbhmpjmlaa
open Go.RowKit

set_option maxHeartbeats 2000000 in
theorem peek_bs (P : List Int) (p : Option Addr) (pc : Nat) (B : List UInt8) (q : Option Addr) (qc : Nat) (at0 : Int) (nn : Nat) (w : World) (hS : SpAt w P p B q qc) (hs : spB P B.length = true) (hn : nn ≤ 2048) (hf : fltK P 0 at0 nn = 0) (hpos : 0 < nn) :
    Calls Try.prog 27 #[spV p P.length pc q B.length qc, .int .i64 at0, .int .i64 (nn : Int)] w fun e w' => ∃ gb vc, e = .returned (.tuple #[.slice (some ⟨gb, 0, none⟩) nn vc, ftV 0 0, .int .i64 0]) ∧ BS w' gb (rdL B at0 nn) ∧ Below w.heap.size w w' := by
  have h0 : ¬ (nn : Int) < 0 := by omega
  have h1 : ¬ (2048 : Int) < (nn : Int) := by omega
  have HL := Lib.hid (spB_len hs)
  have HO : Hid (nn ≤ 2048) := Lib.hid (by omega)
  have HS := Lib.hid hS
  clear hn
  have R : ∀ W, Below w.heap.size w W → Calls Try.prog 56 #[spV p P.length pc q B.length qc] W fun e w' => ∃ q2 c PB, e = .returned (spV p P.length pc q2 P.length c) ∧ (q2 = some ⟨PB, 0, none⟩ ∨ P = []) ∧ SeqAt w' (some ⟨PB, 0, none⟩) (bV B) ∧ PB < w'.heap.size ∧ Below W.heap.size W w' := fun W hW => memoryOf_r P p pc B q qc W HL.out.1 HL.out.2 (hS.up hW)
  have R2 : ∀ q2 c2 PB W, Below w.heap.size w W → (q2 = some ⟨PB, 0, none⟩ ∨ P = []) → SeqAt W (some ⟨PB, 0, none⟩) (bV B) → PB < W.heap.size → Calls Try.prog 57 #[spV p P.length pc q2 P.length c2, .int .i64 at0, .int .i64 (nn : Int), .int .i64 0] W fun e w' => ∃ gb vc, e = .returned (.tuple #[.slice (some ⟨gb, 0, none⟩) nn vc, ftV 0 0]) ∧ W.heap.size ≤ gb ∧ gb < w'.heap.size ∧ BS w' gb (rdL B at0 nn) ∧ Below W.heap.size W w' := fun q2 c2 PB W hW h1 h2 h3 => rd_bs P p pc B q2 c2 PB at0 nn 0 W HL.out HO.out (HS.out.up hW).perm (HS.out.up hW).old h1 h2 h3 hf hpos
  clear hf
  go_enter Try.func27, Try.ntmps27
  go_wp2_with first | (go_at_call 55; (refine (checkLength_ok P p pc q B.length qc _ _ _ (hS.perm.up (Gr.below (by repeat (first | (with_reducible exact Gr.refl _) | with_reducible refine Gr.alloc ?_ _ | with_reducible refine Gr.more ?_ _ _ | with_reducible refine Gr.setCell ?_ (by dsimp only; omega) _ | with_reducible refine Gr.drew ?_)))) hs h0 h1).mono ?_); rintro e w1 ⟨rfl, hb⟩; obtain ⟨oc, zc, rfl⟩ := Below.moreE hb; clear hb) | (go_at_call 56; (refine (R _ (Gr.below (by repeat (first | (with_reducible exact Gr.refl _) | with_reducible refine Gr.alloc ?_ _ | with_reducible refine Gr.more ?_ _ _ | with_reducible refine Gr.setCell ?_ (by dsimp only; omega) _ | with_reducible refine Gr.drew ?_)))).mono ?_); rintro e w1 ⟨q2, c2, PB, rfl, hq2, hs2, hlt2, hb⟩; obtain ⟨om, zm, rfl⟩ := Below.moreE hb; clear hb; simp only [World.more_more, Array.append_assoc] at hs2 hlt2) | (go_at_call 57; (refine (R2 _ _ _ _ (Gr.below (by repeat (first | (with_reducible exact Gr.refl _) | with_reducible refine Gr.alloc ?_ _ | with_reducible refine Gr.more ?_ _ _ | with_reducible refine Gr.setCell ?_ (by dsimp only; omega) _ | with_reducible refine Gr.drew ?_))) hq2 hs2 hlt2).mono ?_); rintro e w1 ⟨gb, vc, rfl, hge, hgl, hv, hb⟩; obtain ⟨od, zd, rfl⟩ := Below.moreE hb; clear hb; simp only [World.more_more, Array.append_assoc, World.size_more, World.size_alloc] at hv hge hgl)
  refine bodyPost_ret (v := .tuple #[.slice (some ⟨gb, 0, none⟩) nn vc, ftV 0 0, .int .i64 0]) (by simp [results, Try.results27, go_sem, *]) rfl ⟨gb, vc, rfl, by repeat (first | (with_reducible exact hv) | with_reducible refine BS.al ?_ _ | with_reducible refine BS.mo ?_ _ _ | with_reducible refine BS.st ?_ (by dsimp only; (try simp only [World.size_more, World.size_alloc, World.size_setCell, World.size_drew, Array.size_append] at *); omega) _ | with_reducible refine BS.dr ?_), (Gr.below (by repeat (first | (with_reducible exact Gr.refl _) | with_reducible refine Gr.alloc ?_ _ | with_reducible refine Gr.more ?_ _ _ | with_reducible refine Gr.setCell ?_ (by dsimp only; omega) _ | with_reducible refine Gr.drew ?_)))⟩

/-- A value that is a slice of bytes which begins a block. -/
def BsVal (W : World) (v : Value) (X : List UInt8) : Prop := ∃ gb vc, v = .slice (some ⟨gb, 0, none⟩) X.length vc ∧ BS W gb X
theorem BsVal.up {W W' : World} (g : Gr W.heap.size W W') {v : Value} {X : List UInt8} (h : BsVal W v X) : BsVal W' v X := by
  obtain ⟨gb, vc, h1, h2⟩ := h
  exact ⟨gb, vc, h1, h2.up g⟩
def CPeekB (P : List Int) (B : List UInt8) (at0 n : Int) (X : List UInt8) (K A E : Int) : Prop := ∀ w p pc q qc, SpAt w P p B q qc → Calls Try.prog 27 #[spV p P.length pc q B.length qc, .int .i64 at0, .int .i64 n] w fun e w' => ∃ v, e = .returned (.tuple #[v, ftV K A, .int .i64 E]) ∧ BsVal w' v X ∧ Below w.heap.size w w'
theorem cPeek_bs {P : List Int} {B : List UInt8} (hs : spB P B.length = true) (at0 : Int) {n : Int} {k : Nat} (hk : n = k) (hn : k ≤ 2048) (hp : 0 < k) (hf : fltK P 0 at0 k = 0) : CPeekB P B at0 n (rdL B at0 k) 0 0 0 := fun w p pc q qc h => by
  subst hk
  exact (peek_bs P p pc B q qc at0 k w h hs hn hf hp).mono fun _ w' ⟨gb, vc, h1, h2, h3⟩ => ⟨_, h1, ⟨gb, vc, by rw [rdL_len], h2⟩, h3⟩
/-- A value that is a list of differences. -/
def DfVal (W : World) (v : Value) (B B2 : List UInt8) (D : List Nat) : Prop := ∃ p c, v = .slice p D.length c ∧ (D = [] ∨ ∃ b, p = some ⟨b, 0, none⟩ ∧ ∀ j (h : j < D.length), W.cell? ⟨b, j * 3, none⟩ = some (.int .i64 (D[j] : Int)) ∧ W.cell? ⟨b, j * 3 + 1, none⟩ = some (.int .u8 ((B.getD D[j] 0).toNat : Int)) ∧ W.cell? ⟨b, j * 3 + 2, none⟩ = some (.int .u8 ((B2.getD D[j] 0).toNat : Int)))
theorem DfVal.up {W W' : World} (g : Gr W.heap.size W W') {v : Value} {B B2 : List UInt8} {D : List Nat} (h : DfVal W v B B2 D) : DfVal W' v B B2 D := by
  obtain ⟨p, c, h1, h2⟩ := h
  refine ⟨p, c, h1, ?_⟩
  rcases h2 with h2 | ⟨b, e, h2⟩
  · exact .inl h2
  · refine .inr ⟨b, e, fun j hj => ?_⟩
    obtain ⟨a0, a1, a2⟩ := h2 j hj
    exact ⟨grC g a0, grC g a1, grC g a2⟩
theorem flat3 {α β : Type} (f : α → List β) (hf : ∀ x, (f x).length = 3) : ∀ (D : List α) (j i : Nat) (h : j < D.length), i < 3 → (D.flatMap f)[3 * j + i]? = (f D[j])[i]?
  | [], _, _, h, _ => by simp at h
  | x :: D, 0, i, _, hi => by
    rw [List.flatMap_cons, Nat.mul_zero, Nat.zero_add, List.getElem?_append_left (by rw [hf]; exact hi)]
    rfl
  | x :: D, j + 1, i, h, hi => by
    rw [List.flatMap_cons, List.getElem?_append_right (by rw [hf]; omega), hf, show 3 * (j + 1) + i - 3 = 3 * j + i by omega, flat3 f hf D j i (by simpa using h) hi]
    rfl
theorem df_of_own {w : World} {base : Nat} {e : TypeId} {v : Value} {B B2 : List UInt8} {k : Nat} (h : w.ownsRow base e 3 v (dfs B B2 k).length (dfC B B2 k)) : DfVal w v B B2 (dfs B B2 k) := by
  rcases h.2 with ⟨rfl, hz⟩ | ⟨g, cap, cur, rfl, h2⟩
  · exact ⟨none, 0, by rw [hz], .inl (List.eq_nil_of_length_eq_zero hz)⟩
  · refine ⟨_, cap, rfl, .inr ⟨g, rfl, fun j hj => ?_⟩⟩
    have c := fun i (hi : i < 3) u (hu : (chC B B2 (dfs B B2 k)[j])[i]? = some u) => by
      have := h.cells (g := g) rfl (3 * j + i) u (by unfold dfC; rw [flat3 (chC B B2) (fun _ => rfl) _ _ _ hj hi]; exact hu)
      rwa [Addr.add_lit, Nat.zero_add, Nat.mul_comm 3 j] at this
    exact ⟨c 0 (by decide) _ rfl, c 1 (by decide) _ rfl, c 2 (by decide) _ rfl⟩
def CDiff (P : List Int) (B : List UInt8) (P2 : List Int) (B2 : List UInt8) (D : List Nat) (E : Int) : Prop := ∀ w p pc q qc p2 pc2 q2 qc2, SpAt w P p B q qc → SpAt w P2 p2 B2 q2 qc2 → Calls Try.prog 39 #[spV p P.length pc q B.length qc, spV p2 P2.length pc2 q2 B2.length qc2] w fun e w' => ∃ v, e = .returned (.tuple #[v, .int .i64 E]) ∧ DfVal w' v B B2 D ∧ Below w.heap.size w w'
theorem dfNone (W : World) (B B2 : List UInt8) : DfVal W (.slice none 0 0) B B2 [] := ⟨none, 0, rfl, .inl rfl⟩
theorem cDiff_bad {P : List Int} {B : List UInt8} {P2 : List Int} {B2 : List UInt8} (hs : (spB P B.length && spB P2 B2.length) = false) : CDiff P B P2 B2 [] 30 := fun w p pc q qc p2 pc2 q2 qc2 h h2 =>
  (diff_bad P p pc q B.length qc P2 p2 pc2 q2 B2.length qc2 w h.perm h2.perm hs).mono fun _ w' ⟨h1, h2⟩ => ⟨_, h1, dfNone _ _ _, h2⟩
theorem cDiff_arg {P : List Int} {B : List UInt8} {P2 : List Int} {B2 : List UInt8} (hs : spB P B.length = true) (hs2 : spB P2 B2.length = true) (hne : P ≠ P2) : CDiff P B P2 B2 [] 1 := fun w p pc q qc p2 pc2 q2 qc2 h h2 =>
  (diff_arg P p pc q B.length qc P2 p2 pc2 q2 B2.length qc2 w h.perm h2.perm hs hs2 (beq_eq_false_iff_ne.2 hne)).mono fun _ w' ⟨h1, h2⟩ => ⟨_, h1, dfNone _ _ _, h2⟩
theorem cDiff_ok {P : List Int} {B B2 : List UInt8} (hs : spB P B.length = true) (hs2 : spB P B2.length = true) : CDiff P B P B2 (dfs B B2 B.length) 0 := fun w p pc q qc p2 pc2 q2 qc2 h h2 =>
  (diff_ok P p pc B q qc p2 pc2 B2 q2 qc2 w h.perm h2.perm h.byte h2.byte hs hs2).mono fun _ w' ⟨v, h1, h2, h3⟩ => ⟨v, h1, df_of_own h2, h3⟩
theorem dfs_mem {B B2 : List UInt8} {k j : Nat} : j ∈ dfs B B2 k ↔ j < k ∧ B.getD j 0 ≠ B2.getD j 0 := by
  unfold dfs
  rw [List.mem_filter, List.mem_range]
  simp only [bne_iff_ne]
end Go.Proofs.Ytbfakdbhmpjmlaa
