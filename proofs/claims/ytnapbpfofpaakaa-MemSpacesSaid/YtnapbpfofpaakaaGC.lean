/-
  Layer 3, contracts: checkType.
  Layer 3, contracts: Store (made by genzc.py).
  Layer 3, contracts: Load.
  Layer 3, contracts: Load, with a fault.
  Layer 3, contracts of the library: Equal; mem.Same.
  Layer 3, contracts: bytes.Equal, Same.
  Layer 3, contracts: the closure that reads a string (made by genzg.py).
  Layer 3, contracts: String.
  Layer 3, contracts: Diff.
  Layer 3, contracts: withPerm.
  Layer 3, contracts: Seal, Protect.
  Layer 3, contracts: New.
  Layer 3, contracts: Fetch, Peek (made by genyo.py).
  Plain mathematics of layer 3, continued: accesses that have no fault.
  Layer 3, the laws: what a call answers, as a predicate on the spaces' contents; boxes.
  What the rows of layer 3's laws share: an argument that is a space, a part, a word.
-/
import Derived.Test.YtnapbpfofpaakaaGB
import Derived.Test.YtnapbpfofpaakaaGA
import Derived.Laws.BytesArg
import Derived.Laws.BytesString
import Derived.Lib.LazyBuf
import Derived.Deep.OwnRows
import Derived.Test.YtnapbpfofpaakaaRows
import Derived.ProofKit
import Derived.LaidMore
import Derived.OpenShut
import Derived.Stop.Joined
import Derived.Lib.SmallJoins
namespace Go.Proofs.Ytnapbpfofpaakaa
open Go.RowKit

theorem checkType_bad (P : List Int) (p : Option Addr) (pc : Nat) (q : Option Addr) (m qc : Nat) (s : Int) (g : Bool) (w : World) (hP : SeqAt w p (iV P)) (hs : spB P m = false) :
    Calls Try.prog 64 #[spV p P.length pc q m qc, tyV s g] w fun e w' => e = .returned (.int .i64 30) ∧ Below w.heap.size w w' := by
  have hC := fun w (hP : SeqAt w p (iV P)) => mcheck_any P p pc q m qc w hP
  rw [spE_bad hs] at hC
  go_enter Try.func64, Try.ntmps64
  go_wp2_with (go_at_call 21; (refine (hC _ (hP.up (Gr.below (by repeat (first | (with_reducible exact Gr.refl _) | with_reducible refine Gr.alloc ?_ _ | with_reducible refine Gr.more ?_ _ _ | with_reducible refine Gr.setCell ?_ (by dsimp only; omega) _ | with_reducible refine Gr.drew ?_))))).mono ?_); rintro e w1 ⟨rfl, hb⟩; obtain ⟨os, n, rfl⟩ := Below.moreE hb; clear hb)
  go_ret
  exact ⟨rfl, (Gr.below (by repeat (first | (with_reducible exact Gr.refl _) | with_reducible refine Gr.alloc ?_ _ | with_reducible refine Gr.more ?_ _ _ | with_reducible refine Gr.setCell ?_ (by dsimp only; omega) _ | with_reducible refine Gr.drew ?_)))⟩
theorem checkType_ok (P : List Int) (p : Option Addr) (pc : Nat) (q : Option Addr) (m qc : Nat) (s : Int) (g : Bool) (w : World) (hP : SeqAt w p (iV P)) (hs : spB P m = true) :
    Calls Try.prog 64 #[spV p P.length pc q m qc, tyV s g] w fun e w' => e = .returned (.int .i64 (eT s)) ∧ Below w.heap.size w w' := by
  have hC := fun w (hP : SeqAt w p (iV P)) => mcheck_any P p pc q m qc w hP
  rw [spE_ok hs] at hC
  go_enter Try.func64, Try.ntmps64
  go_wp2_with first | (go_at_call 21; (refine (hC _ (hP.up (Gr.below (by repeat (first | (with_reducible exact Gr.refl _) | with_reducible refine Gr.alloc ?_ _ | with_reducible refine Gr.more ?_ _ _ | with_reducible refine Gr.setCell ?_ (by dsimp only; omega) _ | with_reducible refine Gr.drew ?_))))).mono ?_); rintro e w1 ⟨rfl, hb⟩; obtain ⟨os, n, rfl⟩ := Below.moreE hb; clear hb) | (go_at_call 78; (refine (check_any s g _).mono ?_); rintro e w1 ⟨rfl, hb⟩; obtain ⟨os, n, rfl⟩ := Below.moreE hb; clear hb)
  go_ret
  exact ⟨rfl, (Gr.below (by repeat (first | (with_reducible exact Gr.refl _) | with_reducible refine Gr.alloc ?_ _ | with_reducible refine Gr.more ?_ _ _ | with_reducible refine Gr.setCell ?_ (by dsimp only; omega) _ | with_reducible refine Gr.drew ?_)))⟩
end Go.Proofs.Ytnapbpfofpaakaa

namespace Go.Proofs.Ytnapbpfofpaakaa
open Go.RowKit

theorem valid_cases {s : Int} (h : validB s = true) : s = 1 ∨ s = 2 ∨ s = 4 ∨ s = 8 := by simpa [validB, or_assoc] using h
theorem eT_ok {s : Int} (h : validB s = true) : eT s = 0 := by rcases valid_cases h with rfl | rfl | rfl | rfl <;> rfl
theorem BS.seq {W : World} {b : Nat} {l : List UInt8} (h : BS W b l) : SeqAt W (some ⟨b, 0, none⟩) (bV l) := by
  refine .inr ⟨b, 0, rfl, fun j v hj => ?_⟩
  have hjl : j < l.length := by
    have := (List.getElem?_eq_some_iff.1 hj).1
    simpa [bV] using this
  rw [bV_get l j hjl] at hj
  rw [Nat.zero_add, ← hj]
  exact h j hjl
set_option maxHeartbeats 1000000 in
theorem store_bad (P : List Int) (p : Option Addr) (pc : Nat) (q : Option Addr) (m qc : Nat) (at0 s : Int) (g : Bool) (x : Int) (w : World) (hP : SeqAt w p (iV P)) (hs : spB P m = false) :
    Calls Try.prog 34 #[spV p P.length pc q m qc, .int .i64 at0, tyV s g, .int .i64 x] w fun e w' => e = .returned (.tuple #[spV none 0 0 none 0 0, ftV 0 0, .int .i64 30]) ∧ Below w.heap.size w w' := by
  go_enter Try.func34, Try.ntmps34
  go_wp2_with (go_at_call 64; (refine (checkType_bad P p pc q m qc s g _ (hP.up (Gr.below (by repeat (first | (with_reducible exact Gr.refl _) | with_reducible refine Gr.alloc ?_ _ | with_reducible refine Gr.more ?_ _ _ | with_reducible refine Gr.setCell ?_ (by dsimp only; omega) _ | with_reducible refine Gr.drew ?_)))) hs).mono ?_); rintro e w1 ⟨rfl, hb⟩; obtain ⟨os, n, rfl⟩ := Below.moreE hb; clear hb)
  refine bodyPost_ret (v := .tuple #[spV none 0 0 none 0 0, ftV 0 0, .int .i64 30]) (by simp [results, Try.results34, go_sem, *]) rfl ⟨rfl, (Gr.below (by repeat (first | (with_reducible exact Gr.refl _) | with_reducible refine Gr.alloc ?_ _ | with_reducible refine Gr.more ?_ _ _ | with_reducible refine Gr.setCell ?_ (by dsimp only; omega) _ | with_reducible refine Gr.drew ?_)))⟩
set_option maxHeartbeats 1000000 in
theorem store_type (P : List Int) (p : Option Addr) (pc : Nat) (q : Option Addr) (m qc : Nat) (at0 s : Int) (g : Bool) (x : Int) (w : World) (hP : SeqAt w p (iV P)) (hs : spB P m = true) (ht : eT s ≠ 0) :
    Calls Try.prog 34 #[spV p P.length pc q m qc, .int .i64 at0, tyV s g, .int .i64 x] w fun e w' => e = .returned (.tuple #[spV none 0 0 none 0 0, ftV 0 0, .int .i64 (eT s)]) ∧ Below w.heap.size w w' := by
  have ht' : (eT s != 0) = true := bne_iff_ne.2 ht
  go_enter Try.func34, Try.ntmps34
  go_wp2_with (go_at_call 64; (refine (checkType_ok P p pc q m qc s g _ (hP.up (Gr.below (by repeat (first | (with_reducible exact Gr.refl _) | with_reducible refine Gr.alloc ?_ _ | with_reducible refine Gr.more ?_ _ _ | with_reducible refine Gr.setCell ?_ (by dsimp only; omega) _ | with_reducible refine Gr.drew ?_)))) hs).mono ?_); rintro e w1 ⟨rfl, hb⟩; obtain ⟨os, n, rfl⟩ := Below.moreE hb; clear hb)
  refine bodyPost_ret (v := .tuple #[spV none 0 0 none 0 0, ftV 0 0, .int .i64 (eT s)]) (by simp [results, Try.results34, go_sem, *]) rfl ⟨rfl, (Gr.below (by repeat (first | (with_reducible exact Gr.refl _) | with_reducible refine Gr.alloc ?_ _ | with_reducible refine Gr.more ?_ _ _ | with_reducible refine Gr.setCell ?_ (by dsimp only; omega) _ | with_reducible refine Gr.drew ?_)))⟩
set_option maxHeartbeats 4000000 in
theorem store_flt (P : List Int) (p : Option Addr) (pc : Nat) (B : List UInt8) (q : Option Addr) (qc : Nat) (at0 s : Int) (g : Bool) (x : Int) (w : World) (hS : SpAt w P p B q qc) (hs : spB P B.length = true) (hv0 : validB s = true) (hf : fltK P 2 at0 s.toNat ≠ 0) :
    Calls Try.prog 34 #[spV p P.length pc q B.length qc, .int .i64 at0, tyV s g, .int .i64 x] w fun e w' => e = .returned (.tuple #[spV none 0 0 none 0 0, ftV (fltK P 2 at0 s.toNat) (fltA P 2 at0 s.toNat), .int .i64 0]) ∧ Below w.heap.size w w' := by
  have hC := fun w (hP : SeqAt w p (iV P)) => checkType_ok P p pc q B.length qc s g w hP hs
  rw [eT_ok hv0] at hC
  have hN : (btL x s.toNat).length = s.toNat := btL_length _ _
  have hN1 : 0 < s.toNat ∧ s.toNat ≤ 8 := by rcases valid_cases hv0 with rfl | rfl | rfl | rfl <;> decide
  have R : ∀ (b : Nat) (W : World), Below w.heap.size w W → BS W b (btL x s.toNat) → Calls Try.prog 67 #[spV p P.length pc q B.length qc, .int .i64 at0, .slice (some ⟨b, 0, none⟩) s.toNat s.toNat, .int .i64 2] W fun e w' => e = .returned (.tuple #[spV none 0 0 none 0 0, ftV (fltK P 2 at0 s.toNat) (fltA P 2 at0 s.toNat)]) ∧ Below W.heap.size W w' := fun b W hW hb => by
    have hlt : b < W.heap.size := lt_of_cell (hb 0 (by omega))
    have := replaced_flt P p pc B q qc at0 (btL x s.toNat) (some ⟨b, 0, none⟩) s.toNat 2 W (hS.up hW) hs (by omega) hb.seq (fun b' o e => by injection e with e; injection e with e1; subst e1; exact hlt) (by rw [hN]; exact hf)
    rw [hN] at this
    exact this
  have HB := fun w => bytes_ok hv0 g x w
  have HS := Lib.hid hS
  clear hf hS hs hN hN1 hv0
  go_enter Try.func34, Try.ntmps34
  go_wp2_with first | (go_at_call 64; (refine (hC _ (HS.out.up (Gr.below (by repeat (first | (with_reducible exact Gr.refl _) | with_reducible refine Gr.alloc ?_ _ | with_reducible refine Gr.more ?_ _ _ | with_reducible refine Gr.setCell ?_ (by dsimp only; omega) _ | with_reducible refine Gr.drew ?_)))).perm).mono ?_); rintro e w1 ⟨rfl, hb⟩; obtain ⟨oc, zc, rfl⟩ := Below.moreE hb; clear hb) | (go_at_call 66; (refine (HB _).mono ?_); rintro e w1 ⟨bb, rfl, hbb, hbs, hb⟩; obtain ⟨ob, zb, rfl⟩ := Below.moreE hb; clear hb; simp only [World.more_more, Array.append_assoc] at hbs) | (go_at_call 67; (refine (R _ _ (Gr.below (by repeat (first | (with_reducible exact Gr.refl _) | with_reducible refine Gr.alloc ?_ _ | with_reducible refine Gr.more ?_ _ _ | with_reducible refine Gr.setCell ?_ (by dsimp only; omega) _ | with_reducible refine Gr.drew ?_))) hbs).mono ?_); rintro e w1 ⟨rfl, hb⟩; obtain ⟨oz, zz, rfl⟩ := Below.moreE hb; clear hb)
  go_region_held3 (fun w' => w'.cell? ⟨w.heap.size + 1 + 1 + 1 + 1 + (oc.size + (ob.size + oz.size)), 0, none⟩ = some (.slice none 0 0) ∧ w'.cell? ⟨w.heap.size + 1 + 1 + 1 + 1 + (oc.size + (ob.size + oz.size)), 1, none⟩ = some (.slice none 0 0) ∧ w'.cell? ⟨w.heap.size + 1 + 1 + 1 + 1 + (oc.size + (ob.size + oz.size)) + 1, 0, none⟩ = some (.int .i64 (fltK P 2 at0 s.toNat)) ∧ w'.cell? ⟨w.heap.size + 1 + 1 + 1 + 1 + (oc.size + (ob.size + oz.size)) + 1, 1, none⟩ = some (.int .i64 (fltA P 2 at0 s.toNat))) (exact ⟨by go_simp, by go_simp, by go_simp, by go_simp⟩) (fail)
  all_goals go_wp2
  all_goals refine bodyPost_ret (v := .tuple #[spV none 0 0 none 0 0, ftV (fltK P 2 at0 s.toNat) (fltA P 2 at0 s.toNat), .int .i64 0]) (by simp [results, Try.results34, go_sem, *]) rfl ⟨rfl, (Gr.below (by repeat (first | (with_reducible exact Gr.refl _) | with_reducible refine Gr.alloc ?_ _ | with_reducible refine Gr.more ?_ _ _ | with_reducible refine Gr.setCell ?_ (by dsimp only; omega) _ | with_reducible refine Gr.drew ?_)))⟩
set_option maxHeartbeats 4000000 in
theorem store_ok (P : List Int) (p : Option Addr) (pc : Nat) (B : List UInt8) (q : Option Addr) (qc : Nat) (at0 s : Int) (g : Bool) (x : Int) (w : World) (hS : SpAt w P p B q qc) (hs : spB P B.length = true) (hv0 : validB s = true) (hf : fltK P 2 at0 s.toNat = 0) :
    Calls Try.prog 34 #[spV p P.length pc q B.length qc, .int .i64 at0, tyV s g, .int .i64 x] w fun e w' => ∃ sq sc tq tc, e = .returned (.tuple #[spV sq P.length sc tq B.length tc, ftV 0 0, .int .i64 0]) ∧ SpFar w.heap.size w' P sq (wrL B at0 (btL x s.toNat) s.toNat) tq tc ∧ Below w.heap.size w w' := by
  have hC := fun w (hP : SeqAt w p (iV P)) => checkType_ok P p pc q B.length qc s g w hP hs
  rw [eT_ok hv0] at hC
  have hN : (btL x s.toNat).length = s.toNat := btL_length _ _
  have hN1 : 0 < s.toNat ∧ s.toNat ≤ 8 := by rcases valid_cases hv0 with rfl | rfl | rfl | rfl <;> decide
  have R : ∀ (b : Nat) (W : World), Below w.heap.size w W → BS W b (btL x s.toNat) → Calls Try.prog 67 #[spV p P.length pc q B.length qc, .int .i64 at0, .slice (some ⟨b, 0, none⟩) s.toNat s.toNat, .int .i64 2] W fun e w' => ∃ sq sc tq tc, e = .returned (.tuple #[spV sq P.length sc tq B.length tc, ftV 0 0]) ∧ SpFar W.heap.size w' P sq (wrL B at0 (btL x s.toNat) s.toNat) tq tc ∧ Below W.heap.size W w' := fun b W hW hb => by
    have hlt : b < W.heap.size := lt_of_cell (hb 0 (by omega))
    have := replaced_ok P p pc B q qc at0 (btL x s.toNat) (some ⟨b, 0, none⟩) s.toNat 2 W (hS.up hW) hs (by omega) hb.seq (fun b' o e => by injection e with e; injection e with e1; subst e1; exact hlt) (by rw [hN]; exact hf)
    rw [hN] at this
    exact this
  have HB := fun w => bytes_ok hv0 g x w
  have HS := Lib.hid hS
  clear hf hS hs hN hN1 hv0
  go_enter Try.func34, Try.ntmps34
  go_wp2_with first | (go_at_call 64; (refine (hC _ (HS.out.up (Gr.below (by repeat (first | (with_reducible exact Gr.refl _) | with_reducible refine Gr.alloc ?_ _ | with_reducible refine Gr.more ?_ _ _ | with_reducible refine Gr.setCell ?_ (by dsimp only; omega) _ | with_reducible refine Gr.drew ?_)))).perm).mono ?_); rintro e w1 ⟨rfl, hb⟩; obtain ⟨oc, zc, rfl⟩ := Below.moreE hb; clear hb) | (go_at_call 66; (refine (HB _).mono ?_); rintro e w1 ⟨bb, rfl, hbb, hbs, hb⟩; obtain ⟨ob, zb, rfl⟩ := Below.moreE hb; clear hb; simp only [World.more_more, Array.append_assoc] at hbs) | (go_at_call 67; (refine (R _ _ (Gr.below (by repeat (first | (with_reducible exact Gr.refl _) | with_reducible refine Gr.alloc ?_ _ | with_reducible refine Gr.more ?_ _ _ | with_reducible refine Gr.setCell ?_ (by dsimp only; omega) _ | with_reducible refine Gr.drew ?_))) hbs).mono ?_); rintro e w1 ⟨sq, sc, tq, tc, rfl, hv, hb⟩; obtain ⟨oz, zz, rfl⟩ := Below.moreE hb; clear hb; simp only [World.more_more, Array.append_assoc] at hv)
  go_region_held3 (fun w' => w'.cell? ⟨w.heap.size + 1 + 1 + 1 + 1 + (oc.size + (ob.size + oz.size)), 0, none⟩ = some (.slice sq P.length sc) ∧ w'.cell? ⟨w.heap.size + 1 + 1 + 1 + 1 + (oc.size + (ob.size + oz.size)), 1, none⟩ = some (.slice tq B.length tc) ∧ w'.cell? ⟨w.heap.size + 1 + 1 + 1 + 1 + (oc.size + (ob.size + oz.size)) + 1, 0, none⟩ = some (.int .i64 0) ∧ w'.cell? ⟨w.heap.size + 1 + 1 + 1 + 1 + (oc.size + (ob.size + oz.size)) + 1, 1, none⟩ = some (.int .i64 0)) (exact ⟨by go_simp, by go_simp, by go_simp, by go_simp⟩) (fail)
  all_goals go_wp2
  all_goals refine bodyPost_ret (v := .tuple #[spV sq P.length sc tq B.length tc, ftV 0 0, .int .i64 0]) (by simp [results, Try.results34, go_sem, *]) rfl ⟨sq, sc, tq, tc, rfl, hv.of (fun hv => by repeat (first | (with_reducible exact hv) | with_reducible refine SpFar.alloc ?_ _ | with_reducible refine SpFar.more ?_ _ _ | with_reducible refine SpFar.set ?_ (by dsimp only; (try simp only [World.size_more, World.size_alloc, World.size_setCell, World.size_drew]); omega) _ | with_reducible refine SpFar.drew ?_)) (by (try simp only [World.size_more, World.size_alloc, World.size_setCell, World.size_drew]); omega), (Gr.below (by repeat (first | (with_reducible exact Gr.refl _) | with_reducible refine Gr.alloc ?_ _ | with_reducible refine Gr.more ?_ _ _ | with_reducible refine Gr.setCell ?_ (by dsimp only; omega) _ | with_reducible refine Gr.drew ?_)))⟩
end Go.Proofs.Ytnapbpfofpaakaa

namespace Go.Proofs.Ytnapbpfofpaakaa
open Go.RowKit

theorem BS.al {W : World} {b : Nat} {l : List UInt8} (h : BS W b l) (o : Obj) : BS (W.alloc o) b l := fun j hj => up1 (h j hj) o
theorem BS.mo {W : World} {b : Nat} {l : List UInt8} (h : BS W b l) (os : Array Obj) (n : Nat) : BS (W.more os n) b l := fun j hj => cell_up (World.more_below _ _ _) (lt_of_cell (h j hj)) (h j hj)
theorem BS.dr {W : World} {b : Nat} {l : List UInt8} (h : BS W b l) : BS W.drew b l := h
theorem BS.st {W : World} {b : Nat} {l : List UInt8} (h : BS W b l) {a : Addr} (ha : a.block ≠ b) (u : Value) : BS (W.setCell a u) b l := fun j hj => by
  rw [World.cell?_setCell_far _ _ _ _ ha]; exact h j hj
theorem rd_bs (P : List Int) (p : Option Addr) (pc : Nat) (B : List UInt8) (q2 : Option Addr) (c2 PB : Nat) (at0 : Int) (n : Nat) (perm : Int) (w : World) (hm : P.length ≤ 32 ∧ B.length = 64 * P.length) (hn : n ≤ 2048) (hS : SeqAt w p (iV P)) (hp : ∀ b o, p = some ⟨b, o, none⟩ → b < w.heap.size)
    (hq : q2 = some ⟨PB, 0, none⟩ ∨ P = []) (pg : SeqAt w (some ⟨PB, 0, none⟩) (bV B)) (hPB : PB < w.heap.size) (hf : fltK P perm at0 n = 0) (h0 : 0 < n) :
    Calls Try.prog 57 #[spV p P.length pc q2 P.length c2, .int .i64 at0, .int .i64 (n : Int), .int .i64 perm] w fun e w' => ∃ gb vc, e = .returned (.tuple #[.slice (some ⟨gb, 0, none⟩) n vc, ftV 0 0]) ∧ w.heap.size ≤ gb ∧ gb < w'.heap.size ∧ BS w' gb (rdL B at0 n) ∧ Below w.heap.size w w' := by
  have hg := fltK_zero.1 hf
  have ha : fltA P perm at0 n = 0 := by simp [fltA, hg]
  refine (read_any P p pc PB c2 q2 hq at0 n perm B w hm.1 hn hS pg hp hPB hm.2).mono ?_
  rintro e w' ⟨v, rfl, hown, hb⟩
  rw [hf, ha]
  rw [hg] at hown
  obtain ⟨g, cap, cur, rfl, h2⟩ := hown.2.resolve_left (fun h => by have := h.2; omega)
  refine ⟨g, cap, rfl, h2.1, lt_heap h2.2.1, fun j hj => ?_, hb⟩
  have := hown.cells (g := g) rfl j _ (bV_get _ j hj)
  rwa [Addr.add_lit, Nat.zero_add] at this

set_option maxHeartbeats 1000000 in
theorem load_bad (P : List Int) (p : Option Addr) (pc : Nat) (q : Option Addr) (m qc : Nat) (at0 s : Int) (g : Bool) (w : World) (hP : SeqAt w p (iV P)) (hs : spB P m = false) :
    Calls Try.prog 33 #[spV p P.length pc q m qc, .int .i64 at0, tyV s g] w fun e w' => e = .returned (.tuple #[.int .i64 0, ftV 0 0, .int .i64 30]) ∧ Below w.heap.size w w' := by
  go_enter Try.func33, Try.ntmps33
  go_wp2_with (go_at_call 64; (refine (checkType_bad P p pc q m qc s g _ (hP.up (Gr.below (by repeat (first | (with_reducible exact Gr.refl _) | with_reducible refine Gr.alloc ?_ _ | with_reducible refine Gr.more ?_ _ _ | with_reducible refine Gr.setCell ?_ (by dsimp only; omega) _ | with_reducible refine Gr.drew ?_)))) hs).mono ?_); rintro e w1 ⟨rfl, hb⟩; obtain ⟨os, n, rfl⟩ := Below.moreE hb; clear hb)
  refine bodyPost_ret (v := .tuple #[.int .i64 0, ftV 0 0, .int .i64 30]) (by simp [results, Try.results33, go_sem, *]) rfl ⟨rfl, (Gr.below (by repeat (first | (with_reducible exact Gr.refl _) | with_reducible refine Gr.alloc ?_ _ | with_reducible refine Gr.more ?_ _ _ | with_reducible refine Gr.setCell ?_ (by dsimp only; omega) _ | with_reducible refine Gr.drew ?_)))⟩
set_option maxHeartbeats 1000000 in
theorem load_type (P : List Int) (p : Option Addr) (pc : Nat) (q : Option Addr) (m qc : Nat) (at0 s : Int) (g : Bool) (w : World) (hP : SeqAt w p (iV P)) (hs : spB P m = true) (ht : eT s ≠ 0) :
    Calls Try.prog 33 #[spV p P.length pc q m qc, .int .i64 at0, tyV s g] w fun e w' => e = .returned (.tuple #[.int .i64 0, ftV 0 0, .int .i64 (eT s)]) ∧ Below w.heap.size w w' := by
  have ht' : (eT s != 0) = true := bne_iff_ne.2 ht
  go_enter Try.func33, Try.ntmps33
  go_wp2_with (go_at_call 64; (refine (checkType_ok P p pc q m qc s g _ (hP.up (Gr.below (by repeat (first | (with_reducible exact Gr.refl _) | with_reducible refine Gr.alloc ?_ _ | with_reducible refine Gr.more ?_ _ _ | with_reducible refine Gr.setCell ?_ (by dsimp only; omega) _ | with_reducible refine Gr.drew ?_)))) hs).mono ?_); rintro e w1 ⟨rfl, hb⟩; obtain ⟨os, n, rfl⟩ := Below.moreE hb; clear hb)
  refine bodyPost_ret (v := .tuple #[.int .i64 0, ftV 0 0, .int .i64 (eT s)]) (by simp [results, Try.results33, go_sem, *]) rfl ⟨rfl, (Gr.below (by repeat (first | (with_reducible exact Gr.refl _) | with_reducible refine Gr.alloc ?_ _ | with_reducible refine Gr.more ?_ _ _ | with_reducible refine Gr.setCell ?_ (by dsimp only; omega) _ | with_reducible refine Gr.drew ?_)))⟩

set_option maxRecDepth 100000 in
set_option maxHeartbeats 4000000 in
theorem load_ok (P : List Int) (p : Option Addr) (pc : Nat) (B : List UInt8) (q : Option Addr) (qc : Nat) (at0 s : Int) (g : Bool) (w : World) (hS : SpAt w P p B q qc) (hs : spB P B.length = true) (hv0 : validB s = true) (hf : fltK P 1 at0 s.toNat = 0) :
    Calls Try.prog 33 #[spV p P.length pc q B.length qc, .int .i64 at0, tyV s g] w fun e w' => e = .returned (.tuple #[.int .i64 (fbV s g (rdL B at0 s.toNat)), ftV 0 0, .int .i64 0]) ∧ Below w.heap.size w w' := by
  have hC := fun w (hP : SeqAt w p (iV P)) => checkType_ok P p pc q B.length qc s g w hP hs
  rw [eT_ok hv0] at hC
  have hN1 : 0 < s.toNat ∧ s.toNat ≤ 8 ∧ (s.toNat : Int) = s := by rcases valid_cases hv0 with rfl | rfl | rfl | rfl <;> decide
  have HL := Lib.hid (spB_len hs)
  have HS := Lib.hid hS
  have R : ∀ W, Below w.heap.size w W → Calls Try.prog 56 #[spV p P.length pc q B.length qc] W fun e w' => ∃ q2 c PB, e = .returned (spV p P.length pc q2 P.length c) ∧ (q2 = some ⟨PB, 0, none⟩ ∨ P = []) ∧ SeqAt w' (some ⟨PB, 0, none⟩) (bV B) ∧ PB < w'.heap.size ∧ Below W.heap.size W w' := fun W hW => memoryOf_r P p pc B q qc W HL.out.1 HL.out.2 (HS.out.up hW)
  have R2 : ∀ q2 c2 PB W, Below w.heap.size w W → (q2 = some ⟨PB, 0, none⟩ ∨ P = []) → SeqAt W (some ⟨PB, 0, none⟩) (bV B) → PB < W.heap.size → Calls Try.prog 57 #[spV p P.length pc q2 P.length c2, .int .i64 at0, .int .i64 s, .int .i64 1] W fun e w' => ∃ gb vc, e = .returned (.tuple #[.slice (some ⟨gb, 0, none⟩) s.toNat vc, ftV 0 0]) ∧ W.heap.size ≤ gb ∧ gb < w'.heap.size ∧ BS w' gb (rdL B at0 s.toNat) ∧ Below W.heap.size W w' := fun q2 c2 PB W hW h1 h2 h3 => by
    have := rd_bs P p pc B q2 c2 PB at0 s.toNat 1 W HL.out (by omega) (HS.out.up hW).perm (HS.out.up hW).old h1 h2 h3 hf hN1.1
    rw [hN1.2.2] at this
    exact this
  have RF : ∀ gb vc W, BS W gb (rdL B at0 s.toNat) → Calls Try.prog 65 #[tyV s g, .slice (some ⟨gb, 0, none⟩) s.toNat vc] W fun e w' => e = .returned (.tuple #[.int .i64 (fbV s g (rdL B at0 s.toNat)), .int .i64 0]) ∧ Below W.heap.size W w' := fun gb vc W h => by
    have := from_loop hv0 g (rdL B at0 s.toNat) (by rw [rdL_len]; exact hN1.2.2) gb vc W h
    rw [rdL_len] at this
    exact this
  clear hf hS hs hN1 hv0
  go_enter Try.func33, Try.ntmps33
  go_upto_region 4 with (go_at_call 64; (refine (hC _ (HS.out.up (Gr.below (by repeat (first | (with_reducible exact Gr.refl _) | with_reducible refine Gr.alloc ?_ _ | with_reducible refine Gr.more ?_ _ _ | with_reducible refine Gr.setCell ?_ (by dsimp only; omega) _ | with_reducible refine Gr.drew ?_)))).perm).mono ?_); rintro e w1 ⟨rfl, hb⟩; obtain ⟨oc, zc, rfl⟩ := Below.moreE hb; clear hb)
  go_region_held3 (fun w' => w'.cell? ⟨w.heap.size, 0, none⟩ = some (.slice p P.length pc) ∧ w'.cell? ⟨w.heap.size, 1, none⟩ = some (.slice q B.length qc) ∧ w'.cell? ⟨w.heap.size + 1, 0, none⟩ = some (.int .i64 s)) (exact ⟨by go_simp, by go_simp, by go_simp⟩)
    (first | (go_at_call 56; (refine (R _ (Gr.below (by repeat (first | (with_reducible exact Gr.refl _) | with_reducible refine Gr.alloc ?_ _ | with_reducible refine Gr.more ?_ _ _ | with_reducible refine Gr.setCell ?_ (by dsimp only; omega) _ | with_reducible refine Gr.drew ?_)))).mono ?_); rintro e w1 ⟨q2, c2, PB, rfl, hq2, hs2, hlt2, hb⟩; obtain ⟨om, zm, rfl⟩ := Below.moreE hb; clear hb; simp only [World.more_more, World.more_drew, Array.append_assoc] at hs2 hlt2) | (go_at_call 57; (refine (R2 _ _ _ _ (Gr.below (by repeat (first | (with_reducible exact Gr.refl _) | with_reducible refine Gr.alloc ?_ _ | with_reducible refine Gr.more ?_ _ _ | with_reducible refine Gr.setCell ?_ (by dsimp only; omega) _ | with_reducible refine Gr.drew ?_))) hq2 (by first | exact hs2 | exact hs2.up (Gr.below (by repeat (first | (with_reducible exact Gr.refl _) | with_reducible refine Gr.alloc ?_ _ | with_reducible refine Gr.more ?_ _ _ | with_reducible refine Gr.setCell ?_ (by dsimp only; omega) _ | with_reducible refine Gr.drew ?_)))) (by first | exact hlt2 | (simp at hlt2 ⊢; omega))).mono ?_); rintro e w1 ⟨gb, vc, rfl, hge, hgl, hbs, hb⟩; obtain ⟨od, zd, rfl⟩ := Below.moreE hb; clear hb; simp only [World.more_more, World.more_drew, Array.append_assoc, World.size_more, World.size_alloc, World.size_drew] at hbs hge hgl))
  all_goals go_wp2_with (go_at_call 65; (refine (RF _ _ _ (by repeat (first | (with_reducible exact hbs) | with_reducible refine BS.al ?_ _ | with_reducible refine BS.mo ?_ _ _ | with_reducible refine BS.st ?_ (by dsimp only; (try simp only [World.size_more, World.size_alloc, World.size_setCell, World.size_drew, Array.size_append] at *); omega) _ | with_reducible refine BS.dr ?_))).mono ?_); rintro e w1 ⟨rfl, hb⟩; obtain ⟨oe, ze, rfl⟩ := Below.moreE hb; clear hb)
  all_goals refine bodyPost_ret (v := .tuple #[.int .i64 (fbV s g (rdL B at0 s.toNat)), ftV 0 0, .int .i64 0]) (by simp [results, Try.results33, go_sem, *]) rfl ⟨rfl, (Gr.below (by repeat (first | (with_reducible exact Gr.refl _) | with_reducible refine Gr.alloc ?_ _ | with_reducible refine Gr.more ?_ _ _ | with_reducible refine Gr.setCell ?_ (by dsimp only; omega) _ | with_reducible refine Gr.drew ?_)))⟩
end Go.Proofs.Ytnapbpfofpaakaa

namespace Go.Proofs.Ytnapbpfofpaakaa
open Go.RowKit

set_option maxRecDepth 100000 in
set_option maxHeartbeats 4000000 in
theorem load_flt (P : List Int) (p : Option Addr) (pc : Nat) (B : List UInt8) (q : Option Addr) (qc : Nat) (at0 s : Int) (g : Bool) (w : World) (hS : SpAt w P p B q qc) (hs : spB P B.length = true) (hv0 : validB s = true) (hf : fltK P 1 at0 s.toNat ≠ 0) :
    Calls Try.prog 33 #[spV p P.length pc q B.length qc, .int .i64 at0, tyV s g] w fun e w' => e = .returned (.tuple #[.int .i64 0, ftV (fltK P 1 at0 s.toNat) (fltA P 1 at0 s.toNat), .int .i64 0]) ∧ Below w.heap.size w w' := by
  have hC := fun w (hP : SeqAt w p (iV P)) => checkType_ok P p pc q B.length qc s g w hP hs
  rw [eT_ok hv0] at hC
  have hN1 : 0 < s.toNat ∧ s.toNat ≤ 8 ∧ (s.toNat : Int) = s := by rcases valid_cases hv0 with rfl | rfl | rfl | rfl <;> decide
  have HL := Lib.hid (spB_len hs)
  have HS := Lib.hid hS
  have R : ∀ W, Below w.heap.size w W → Calls Try.prog 56 #[spV p P.length pc q B.length qc] W fun e w' => ∃ q2 c PB, e = .returned (spV p P.length pc q2 P.length c) ∧ (q2 = some ⟨PB, 0, none⟩ ∨ P = []) ∧ SeqAt w' (some ⟨PB, 0, none⟩) (bV B) ∧ PB < w'.heap.size ∧ Below W.heap.size W w' := fun W hW => memoryOf_r P p pc B q qc W HL.out.1 HL.out.2 (HS.out.up hW)
  have R2 : ∀ q2 c2 PB W, Below w.heap.size w W → (q2 = some ⟨PB, 0, none⟩ ∨ P = []) → SeqAt W (some ⟨PB, 0, none⟩) (bV B) → PB < W.heap.size → Calls Try.prog 57 #[spV p P.length pc q2 P.length c2, .int .i64 at0, .int .i64 s, .int .i64 1] W fun e w' => ∃ vp vc, e = .returned (.tuple #[.slice vp (goodA P 1 at0 s.toNat) vc, ftV (fltK P 1 at0 s.toNat) (fltA P 1 at0 s.toNat)]) ∧ Below W.heap.size W w' := fun q2 c2 PB W hW h1 h2 h3 => by
    have := rd_r P p pc B q2 c2 PB at0 s.toNat 1 W HL.out (by omega) (HS.out.up hW).perm (HS.out.up hW).old h1 h2 h3
    rw [hN1.2.2] at this
    exact this.mono fun e w' ⟨vp, vc, h1, h2, h3⟩ => ⟨vp, vc, h1, h3⟩
  have hf' : (fltK P 1 at0 s.toNat != 0) = true := bne_iff_ne.2 hf
  clear hf hS hs hN1 hv0
  go_enter Try.func33, Try.ntmps33
  go_upto_region 4 with (go_at_call 64; (refine (hC _ (HS.out.up (Gr.below (by repeat (first | (with_reducible exact Gr.refl _) | with_reducible refine Gr.alloc ?_ _ | with_reducible refine Gr.more ?_ _ _ | with_reducible refine Gr.setCell ?_ (by dsimp only; omega) _ | with_reducible refine Gr.drew ?_)))).perm).mono ?_); rintro e w1 ⟨rfl, hb⟩; obtain ⟨oc, zc, rfl⟩ := Below.moreE hb; clear hb)
  go_region_held3 (fun w' => w'.cell? ⟨w.heap.size, 0, none⟩ = some (.slice p P.length pc) ∧ w'.cell? ⟨w.heap.size, 1, none⟩ = some (.slice q B.length qc) ∧ w'.cell? ⟨w.heap.size + 1, 0, none⟩ = some (.int .i64 s)) (exact ⟨by go_simp, by go_simp, by go_simp⟩)
    (first | (go_at_call 56; (refine (R _ (Gr.below (by repeat (first | (with_reducible exact Gr.refl _) | with_reducible refine Gr.alloc ?_ _ | with_reducible refine Gr.more ?_ _ _ | with_reducible refine Gr.setCell ?_ (by dsimp only; omega) _ | with_reducible refine Gr.drew ?_)))).mono ?_); rintro e w1 ⟨q2, c2, PB, rfl, hq2, hs2, hlt2, hb⟩; obtain ⟨om, zm, rfl⟩ := Below.moreE hb; clear hb; simp only [World.more_more, World.more_drew, Array.append_assoc] at hs2 hlt2) | (go_at_call 57; (refine (R2 _ _ _ _ (Gr.below (by repeat (first | (with_reducible exact Gr.refl _) | with_reducible refine Gr.alloc ?_ _ | with_reducible refine Gr.more ?_ _ _ | with_reducible refine Gr.setCell ?_ (by dsimp only; omega) _ | with_reducible refine Gr.drew ?_))) hq2 (by first | exact hs2 | exact hs2.up (Gr.below (by repeat (first | (with_reducible exact Gr.refl _) | with_reducible refine Gr.alloc ?_ _ | with_reducible refine Gr.more ?_ _ _ | with_reducible refine Gr.setCell ?_ (by dsimp only; omega) _ | with_reducible refine Gr.drew ?_)))) (by first | exact hlt2 | (simp at hlt2 ⊢; omega))).mono ?_); rintro e w1 ⟨vp, vc, rfl, hb⟩; obtain ⟨od, zd, rfl⟩ := Below.moreE hb; clear hb))
  all_goals go_wp2_with fail
  all_goals go_region_with (fail)
  all_goals go_wp2_with fail
  all_goals refine bodyPost_ret (v := .tuple #[.int .i64 0, ftV (fltK P 1 at0 s.toNat) (fltA P 1 at0 s.toNat), .int .i64 0]) (by simp [results, Try.results33, go_sem, *]) rfl ⟨rfl, (Gr.below (by repeat (first | (with_reducible exact Gr.refl _) | with_reducible refine Gr.alloc ?_ _ | with_reducible refine Gr.more ?_ _ _ | with_reducible refine Gr.setCell ?_ (by dsimp only; omega) _ | with_reducible refine Gr.drew ?_)))⟩
end Go.Proofs.Ytnapbpfofpaakaa

namespace Go.Proofs.Ytnapbpfofpaakaa
open Go.RowKit

theorem SeqAt.get {w : World} {p : Option Addr} {xs : List Value} (h : SeqAt w p xs) (hn : 0 < xs.length) : ∃ b o, p = some ⟨b, o, none⟩ ∧ ∀ j v, xs[j]? = some v → w.cell? ⟨b, o + j, none⟩ = some v := by
  rcases h with h | h
  · subst h; simp at hn
  · exact h

set_option maxHeartbeats 1000000 in
theorem equalI_any (X Y : List Int) (p q : Option Addr) (pc qc : Nat) (w : World) (hX : SeqAt w p (iV X)) (hY : SeqAt w q (iV Y)) (hx : X.length ≤ 4096) (hy : Y.length ≤ 4096) :
    Calls Try.prog 53 #[.slice p X.length pc, .slice q Y.length qc] w fun e w' => e = .returned (.bool (X == Y)) ∧ Below w.heap.size w w' := by
  by_cases hl : X.length = Y.length
  · have hl' : ((X.length : Int) != (Y.length : Int)) = false := by rw [bne_eq_false_iff_eq]; omega
    have HX := Lib.hid hX
    have HY := Lib.hid hY
    have HL := Lib.hid hl
    have hx' : (X.length : Int) ≤ 4096 := by omega
    clear hX hY hl hy
    go_enter Try.func53, Try.ntmps53
    go_wp2
    go_loopw [13] (fun i wr => ∃ k : Nat, k ≤ X.length ∧ i = .int .i64 (k : Int) ∧ Hid (∀ j, j < k → X[j]? = Y[j]?) ∧ Below w.heap.size w wr) (fun i _ => X.length - (intOf i).toNat)
    case atStart => exact ⟨0, Nat.zero_le _, rfl, Lib.hid (fun j hj => by omega), Below.refl _ _⟩
    case round =>
      obtain ⟨k, hk, rfl, hsame, hB⟩ := hrel
      by_cases hlt : k < X.length
      · have hlt' : (k : Int) < (X.length : Int) := by omega
        have hky : k < Y.length := by have := HL.out; omega
        have hlty : (k : Int) < (Y.length : Int) := by omega
        obtain ⟨b, o, rfl, hcx⟩ := HX.out.get (by rw [iV_len]; omega)
        obtain ⟨c, o2, rfl, hcy⟩ := HY.out.get (by rw [iV_len]; omega)
        have cx := hcx k _ (iV_get X k hlt)
        have cy := hcy k _ (iV_get Y k hky)
        replace cx := cell_up hB (lt_of_cell cx) cx
        replace cy := cell_up hB (lt_of_cell cy) cy
        clear hcx hcy
        by_cases he : X[k] = Y[k]
        · have he' : (X[k] != Y[k]) = false := by rw [bne_eq_false_iff_eq]; exact he
          have hst : Hid (∀ j, j < k + 1 → X[j]? = Y[j]?) := Lib.hid (fun j hj => by
            by_cases e : j = k
            · subst e; rw [List.getElem?_eq_getElem hlt, List.getElem?_eq_getElem hky, he]
            · exact hsame.out j (by omega))
          clear he hsame
          go_wp2_with fail
          go_region_held3 (fun w' => w'.cell? ⟨b, o + k, none⟩ = some (.int .i64 X[k]) ∧ w'.cell? ⟨c, o2 + k, none⟩ = some (.int .i64 Y[k])) (exact ⟨by go_simp, by go_simp⟩) (fail)
          go_wp2_with fail
          exact ⟨⟨k + 1, by omega, by push_cast; rfl, hst, hB.drew⟩, by show X.length - ((k : Int) + 1).toNat < X.length - (k : Int).toNat; omega⟩
        · have he' : (X[k] != Y[k]) = true := bne_iff_ne.2 he
          have hr : Hid ((X == Y) = false) := Lib.hid (by
            rw [beq_eq_false_iff_ne]
            rintro rfl
            exact he rfl)
          clear he hsame
          go_wp2_with fail
          go_region_held3 (fun w' => w'.cell? ⟨b, o + k, none⟩ = some (.int .i64 X[k]) ∧ w'.cell? ⟨c, o2 + k, none⟩ = some (.int .i64 Y[k])) (exact ⟨by go_simp, by go_simp⟩) (fail)
          go_wp2_with fail
          go_ret
          exact ⟨retB hr.out.symm, hB.drew⟩
      · have hge : ¬ (k : Int) < (X.length : Int) := by omega
        have hr : Hid ((X == Y) = true) := Lib.hid (by
          rw [beq_iff_eq]
          apply List.ext_getElem?
          intro j
          by_cases hj : j < k
          · exact hsame.out j hj
          · rw [List.getElem?_eq_none (by omega), List.getElem?_eq_none (by have := HL.out; omega)])
        clear hsame
        go_wp2_with fail
        go_ret
        exact ⟨retB hr.out.symm, hB⟩
  · have hl' : ((X.length : Int) != (Y.length : Int)) = true := by rw [bne_iff_ne]; omega
    have hr : Hid ((X == Y) = false) := Lib.hid (by
      rw [beq_eq_false_iff_ne]
      rintro rfl
      exact hl rfl)
    clear hl hX hY
    go_enter Try.func53, Try.ntmps53
    go_wp2
    go_ret
    exact ⟨retB hr.out.symm, Below.refl _ _⟩
end Go.Proofs.Ytnapbpfofpaakaa

namespace Go.Proofs.Ytnapbpfofpaakaa
open Go.RowKit

theorem strOfNums_map' (l : List UInt8) : strOfNums (l.map fun b => (b.toNat : Int)) = ⟨l.toArray⟩ := by
  unfold strOfNums
  congr 2
  rw [List.map_map]
  conv => rhs; rw [← List.map_id l]
  apply List.map_congr_left
  intro x _
  simp
theorem conv_any (X : List UInt8) (p : Option Addr) (c : Nat) (w : World) (h : SeqAt w p (bV X)) : (convert 23 9 (.slice p X.length c)).run Try.prog w = .ok (.string ⟨X.toArray⟩) w := by
  rcases h with h | ⟨b, o, rfl, h⟩
  · have hX : X = [] := by simpa [bV] using h
    subst hX
    show (convert 23 9 (.slice p 0 c)).run Try.prog w = _
    rw [run_convert_bytes_string w 23 9 _ _ 0 c Try.underlying23 Try.underlying5 Try.underlying9]
    cases p <;> simp [Conv.bytesToString, loadCells]
    all_goals rfl
  · rw [run_convert_bytes_arg w 23 5 Try.underlying23 Try.underlying5 b o X.length c (X.map fun x => (x.toNat : Int)) (by simp) (fun i hi => ?_) 9 Try.underlying9, strOfNums_map']
    rw [h i _ (bV_get X i hi)]
    simp [List.getD, hi]

theorem equalB_any (X Y : List UInt8) (p q : Option Addr) (pc qc : Nat) (w : World) (hX : SeqAt w p (bV X)) (hY : SeqAt w q (bV Y)) :
    Calls Try.prog 54 #[.slice p X.length pc, .slice q Y.length qc] w fun e w' => e = .returned (.bool (X == Y)) ∧ Below w.heap.size w w' := by
  have c1 := conv_any X p pc w hX
  have c2 := conv_any Y q qc w hY
  have he : ((⟨X.toArray⟩ : ByteArray) == ⟨Y.toArray⟩) = (X == Y) := by
    have h0 : ((⟨X.toArray⟩ : ByteArray) == ⟨Y.toArray⟩) = (X.toArray == Y.toArray) := rfl
    rw [h0]; simp
  clear hX hY
  go_enter Try.func54, Try.ntmps54
  go_wp2
  go_ret
  exact ⟨rfl, Below.refl _ _⟩

set_option maxHeartbeats 2000000 in
theorem same_any (P : List Int) (p : Option Addr) (pc : Nat) (B : List UInt8) (q : Option Addr) (qc : Nat) (P2 : List Int) (p2 : Option Addr) (pc2 : Nat) (B2 : List UInt8) (q2 : Option Addr) (qc2 : Nat) (w : World)
    (h1 : SeqAt w p (iV P)) (h2 : SeqAt w q (bV B)) (h3 : SeqAt w p2 (iV P2)) (h4 : SeqAt w q2 (bV B2)) (l1 : P.length ≤ 4096) (l2 : P2.length ≤ 4096) :
    Calls Try.prog 24 #[spV p P.length pc q B.length qc, spV p2 P2.length pc2 q2 B2.length qc2] w fun e w' => e = .returned (.bool (P == P2 && B == B2)) ∧ Below w.heap.size w w' := by
  have E1 : ∀ W, Below w.heap.size w W → Calls Try.prog 53 #[.slice p P.length pc, .slice p2 P2.length pc2] W fun e w' => e = .returned (.bool (P == P2)) ∧ Below W.heap.size W w' := fun W h => equalI_any P P2 p p2 pc pc2 W (h1.up h) (h3.up h) l1 l2
  have E2 : ∀ W, Below w.heap.size w W → Calls Try.prog 54 #[.slice q B.length qc, .slice q2 B2.length qc2] W fun e w' => e = .returned (.bool (B == B2)) ∧ Below W.heap.size W w' := fun W h => equalB_any B B2 q q2 qc qc2 W (h2.up h) (h4.up h)
  clear h1 h2 h3 h4 l1 l2
  generalize (B == B2) = y at *
  cases hx : (P == P2)
  · rw [hx] at E1
    clear hx
    go_enter Try.func24, Try.ntmps24
    go_wp2_with (go_at_call 53; (refine (E1 _ (Gr.below (by repeat (first | (with_reducible exact Gr.refl _) | with_reducible refine Gr.alloc ?_ _ | with_reducible refine Gr.more ?_ _ _ | with_reducible refine Gr.setCell ?_ (by dsimp only; omega) _ | with_reducible refine Gr.drew ?_)))).mono ?_); rintro e w1 ⟨rfl, hb⟩; obtain ⟨os, n, rfl⟩ := Below.moreE hb; clear hb)
    go_ret
    exact ⟨by simp, (Gr.below (by repeat (first | (with_reducible exact Gr.refl _) | with_reducible refine Gr.alloc ?_ _ | with_reducible refine Gr.more ?_ _ _ | with_reducible refine Gr.setCell ?_ (by dsimp only; omega) _ | with_reducible refine Gr.drew ?_)))⟩
  · rw [hx] at E1
    clear hx
    go_enter Try.func24, Try.ntmps24
    go_wp2_with first | (go_at_call 53; (refine (E1 _ (Gr.below (by repeat (first | (with_reducible exact Gr.refl _) | with_reducible refine Gr.alloc ?_ _ | with_reducible refine Gr.more ?_ _ _ | with_reducible refine Gr.setCell ?_ (by dsimp only; omega) _ | with_reducible refine Gr.drew ?_)))).mono ?_); rintro e w1 ⟨rfl, hb⟩; obtain ⟨os, n, rfl⟩ := Below.moreE hb; clear hb) | (go_at_call 54; (refine (E2 _ (Gr.below (by repeat (first | (with_reducible exact Gr.refl _) | with_reducible refine Gr.alloc ?_ _ | with_reducible refine Gr.more ?_ _ _ | with_reducible refine Gr.setCell ?_ (by dsimp only; omega) _ | with_reducible refine Gr.drew ?_)))).mono ?_); rintro e w1 ⟨rfl, hb⟩; obtain ⟨os, n, rfl⟩ := Below.moreE hb; clear hb)
    go_ret
    exact ⟨by simp, (Gr.below (by repeat (first | (with_reducible exact Gr.refl _) | with_reducible refine Gr.alloc ?_ _ | with_reducible refine Gr.more ?_ _ _ | with_reducible refine Gr.setCell ?_ (by dsimp only; omega) _ | with_reducible refine Gr.drew ?_)))⟩
end Go.Proofs.Ytnapbpfofpaakaa

namespace Go.Proofs.Ytnapbpfofpaakaa
open Go.RowKit Go.Shelf
attribute [local go_sem] Oper.semAt_some

/-- What stands between two rounds. -/
def SI (w : World) (P : List Int) (p : Option Addr) (pc PB qc : Nat) (q : Option Addr) (at0 : Int) (n : Nat) (B : List UInt8) (bn bm ba bp cb base : Nat) (k : Nat) (W : World) : Prop :=
  RI w P p pc PB qc q at0 n 1 B bn bm ba bp cb base k W ∧ ∀ j, j < k → rdA B at0 j ≠ 0
theorem SI.keep {w : World} {P : List Int} {p : Option Addr} {pc PB qc : Nat} {q : Option Addr} {at0 : Int} {n : Nat} {B : List UInt8} {bn bm ba bp cb base : Nat} {k : Nat} {W W' : World}
    (h : SI w P p pc PB qc q at0 n B bn bm ba bp cb base k W) (g : Keep base W W') : SI w P p pc PB qc q at0 n B bn bm ba bp cb base k W' := ⟨h.1.keep g, h.2⟩
/-- What stands when a byte 0 has been found. -/
def SX (w : World) (P : List Int) (p : Option Addr) (pc PB qc : Nat) (q : Option Addr) (at0 : Int) (n : Nat) (B : List UInt8) (bn bm ba bp cb base : Nat) (c : Code) (k1 : Nat) (W : World) : Prop :=
  c = .ret ∧ ∃ k, k1 = k + 1 ∧ k < n ∧ SI w P p pc PB qc q at0 n B bn bm ba bp cb base k W ∧ kindA P 1 (adr at0 k) = 0 ∧ rdA B at0 k = 0
theorem SX.keep {w : World} {P : List Int} {p : Option Addr} {pc PB qc : Nat} {q : Option Addr} {at0 : Int} {n : Nat} {B : List UInt8} {bn bm ba bp cb base : Nat} {c : Code} {k : Nat} {W W' : World}
    (h : SX w P p pc PB qc q at0 n B bn bm ba bp cb base c k W) (g : Keep base W W') : SX w P p pc PB qc q at0 n B bn bm ba bp cb base c k W' := by
  obtain ⟨h0, k, h1, h2, h3, h4⟩ := h
  exact ⟨h0, k, h1, h2, h3.keep g, h4⟩
theorem SX.sz2 {w : World} {P : List Int} {p : Option Addr} {pc PB qc : Nat} {q : Option Addr} {at0 : Int} {n : Nat} {B : List UInt8} {bn bm ba bp cb base : Nat} {c : Code} {k : Nat} {W : World}
    (h : SX w P p pc PB qc q at0 n B bn bm ba bp cb base c k W) : base ≤ W.heap.size := by
  obtain ⟨h0, k, h1, h2, h3, h4⟩ := h
  exact h3.1.sz.2
/-- How 'String' has left its closure. -/
def StrEnd (w : World) (P : List Int) (at0 : Int) (n : Nat) (B : List UInt8) (cb base : Nat) (e : Ending) (w' : World) : Prop :=
  ∃ k v, w'.cell? ⟨cb, 0, none⟩ = some v ∧ w'.ownsRow base 5 1 v k (bV (rdL B at0 k)) ∧ (∀ j, j < k → kindA P 1 (adr at0 j) = 0) ∧ (∀ j, j < k → rdA B at0 j ≠ 0) ∧ Caught cb w w' ∧
    (((k = n ∨ (k < n ∧ kindA P 1 (adr at0 k) = 0 ∧ rdA B at0 k = 0)) ∧ e = .returned (.tuple #[])) ∨ (k < n ∧ kindA P 1 (adr at0 k) ≠ 0 ∧ e = .panicked (chV (kindA P 1 (adr at0 k)) (adr at0 k))))
theorem SI.ends {w : World} {P : List Int} {p : Option Addr} {pc PB qc : Nat} {q : Option Addr} {at0 : Int} {n : Nat} {B : List UInt8} {bn bm ba bp cb base : Nat} {k : Nat} {W : World} {e : Ending}
    (h : SI w P p pc PB qc q at0 n B bn bm ba bp cb base k W) (he : ((k = n ∨ (k < n ∧ kindA P 1 (adr at0 k) = 0 ∧ rdA B at0 k = 0)) ∧ e = .returned (.tuple #[])) ∨ (k < n ∧ kindA P 1 (adr at0 k) ≠ 0 ∧ e = .panicked (chV (kindA P 1 (adr at0 k)) (adr at0 k)))) : StrEnd w P at0 n B cb base e W := by
  obtain ⟨v, h1, _, h3⟩ := h.1.row
  exact ⟨k, v, h1, h3, h.1.ok, h.2, h.1.but, he⟩

set_option maxRecDepth 100000 in
set_option maxHeartbeats 1000000 in
theorem string1_any (P : List Int) (p : Option Addr) (pc PB qc : Nat) (q : Option Addr) (hq : q = some ⟨PB, 0, none⟩ ∨ P = []) (at0 : Int) (n : Nat) (B : List UInt8) (cm ca cn cb : Nat) (w : World) (hm : P.length ≤ 32) (hn : n ≤ 2048)
    (m0 : w.cell? ⟨cm, 0, none⟩ = some (.slice p P.length pc)) (m1 : w.cell? ⟨cm, 1, none⟩ = some (.slice q P.length qc)) (a0 : w.cell? ⟨ca, 0, none⟩ = some (.int .i64 at0)) (n0 : w.cell? ⟨cn, 0, none⟩ = some (.int .i64 (n : Int)))
    (ps : SeqAt w p (iV P)) (pg : SeqAt w (some ⟨PB, 0, none⟩) (bV B)) (b0 : w.cell? ⟨cb, 0, none⟩ = some (.slice none 0 0)) (fb : w.frozen? ⟨cb, 0, none⟩ = false)
    (hp : ∀ b o, p = some ⟨b, o, none⟩ → b < cb) (hPB : PB < cb) (hBl : B.length = 64 * P.length) :
    Calls Try.prog 59 #[.pointer (some ⟨cm, 0, none⟩), .pointer (some ⟨ca, 0, none⟩), .pointer (some ⟨cn, 0, none⟩), .pointer (some ⟨cb, 0, none⟩)] w (StrEnd w P at0 n B cb (w.heap.size + 4)) := by
  have hcb := lt_of_cell b0
  refine callsIn_wide.1 (callsIn_of_wp_marks (n := 0) Try.func59 rfl trivial ?_ rfl)
  simp only [Try.ntmps59, List.size_toArray, List.length_cons, List.length_nil, Nat.reduceAdd, Nat.reduceSub, Array.replicate_succ, Array.replicate_zero, List.push_toArray, List.append_toArray, List.nil_append, List.cons_append]
  gi_wp2
  refine ⟨trivial, rfl, ?_⟩
  refine (callsIn_wide.2 (cells_any p P.length pc q P.length qc at0 n 1 w)).mono ?_
  rintro e w' ⟨rfl, rfl⟩
  gi_wp2
  have hcap : CapF P p pc PB qc q at0 n 1 (w.heap.size + 1 + 1) w.heap.size (w.heap.size + 1) (w.heap.size + 1 + 1 + 1) ((((w.alloc (.cells #[.slice p P.length pc, .slice q P.length qc] 106)).alloc (.cells #[.int .i64 at0] 2)).alloc (.cells #[.int .i64 (n : Int)] 3)).alloc (.cells #[.int .i64 1] 3)) :=
    ⟨by go_simp, by go_simp, by go_simp, by go_simp, by go_simp, ps.up (((((Below.refl _ w).alloc (Nat.le_refl _) _).alloc (by simp) _).alloc (by simp; omega) _).alloc (by simp; omega) _)⟩
  refine wp_range (gf := 75) rfl (enters_of Try.func75 (by kernel_rfl) rfl)
    (cells_iter P p pc PB qc q hq at0 n 1 (w.heap.size + 1 + 1) w.heap.size (w.heap.size + 1) (w.heap.size + 1 + 1 + 1) hm hn) (fun _ => rfl)
    (fun k W => SI w P p pc PB qc q at0 n B (w.heap.size + 1 + 1) w.heap.size (w.heap.size + 1) (w.heap.size + 1 + 1 + 1) cb (w.heap.size + 4) k W) (fun c k W => SX w P p pc PB qc q at0 n B (w.heap.size + 1 + 1) w.heap.size (w.heap.size + 1) (w.heap.size + 1 + 1 + 1) cb (w.heap.size + 4) c k W)
    (fun k W W' h g => h.keep (.of_below g h.1.sz.2)) (fun k W l o o' hl h ho hc => h.keep (.of_put o' (by simpa using hl) ho hc)) (fun c k W W' h g => h.keep (.of_below g h.sz2)) (fun c k W l o o' hl h ho hc => h.keep (.of_put o' (by simpa using hl) ho hc)) (fun k W h => h.1.cap)
    ?start (fun k => { tmps := #[.pointer (some ⟨cm, 0, none⟩), .pointer (some ⟨ca, 0, none⟩), .pointer (some ⟨cn, 0, none⟩), .pointer (some ⟨cb, 0, none⟩), undef, .pointer (some ⟨PB, (adr at0 k).toNat, none⟩), .agg #[.slice p P.length pc, .slice q P.length qc], .int .i64 at0, .int .i64 (n : Int), .func (.func 75) #[] #[.pointer (some ⟨w.heap.size + 1 + 1, 0, none⟩), .pointer (some ⟨w.heap.size, 0, none⟩), .pointer (some ⟨w.heap.size + 1, 0, none⟩), .pointer (some ⟨w.heap.size + 1 + 1 + 1, 0, none⟩)], .int .i64 (k : Int), .pointer (some ⟨PB, (adr at0 k).toNat, none⟩), undef, undef, undef, undef, undef, undef, undef, undef, undef, undef], defers := [] }) ?assign ?body ?done ?stop ?panic
  case start =>
    have hb4 : Below w.heap.size w ((((w.alloc (.cells #[.slice p P.length pc, .slice q P.length qc] 106)).alloc (.cells #[.int .i64 at0] 2)).alloc (.cells #[.int .i64 (n : Int)] 3)).alloc (.cells #[.int .i64 1] 3)) :=
      ((((Below.refl _ w).alloc (Nat.le_refl _) _).alloc (by simp) _).alloc (by simp; omega) _).alloc (by simp; omega) _
    refine ⟨?_, fun j hj => by omega⟩
    exact ⟨hcap, pg.up hb4, fun j hj => by omega, ⟨_, by rw [hb4.cell hcb]; exact b0, by rw [hb4.frozen hcb]; exact fb, by exact World.ownsRow_nil _ _ _ _⟩, ⟨hb4.os, hb4.tape, hb4.output, hb4.size, fun k hk _ => hb4.block k hk⟩, by omega, by simp⟩
  case assign =>
    intro l k W K hK
    gi_wp2
    exact hK
  case body =>
    intro l k W h hlt hok
    obtain ⟨v, c0, c1, hrow⟩ := h.1.row
    have hin := okA_in (P := P) (perm := 1) (at0 := at0) (k := k) (by unfold okA; simp [hok])
    have hlB : (adr at0 k).toNat < B.length := by omega
    have hcell : W.cell? ⟨PB, (adr at0 k).toNat, none⟩ = some (.int .u8 (B[(adr at0 k).toNat].toNat : Int)) := by
      rcases h.1.pg with he | ⟨b, o, e, hg⟩
      · have : B.length = 0 := by simpa [bV] using he
        omega
      · obtain ⟨rfl, rfl⟩ : PB = b ∧ 0 = o := by injection e with e; injection e with e1 e2; exact ⟨e1, e2⟩
        have := hg _ _ (bV_get B _ hlB)
        rwa [Nat.zero_add] at this
    have hsz := h.1.sz.2
    have hzB := lt_of_cell hcell
    have hzb := lt_of_cell c0
    have hne : some (⟨cb, 0, none⟩ : Addr).block ≠ v.ownBlock := by
      intro e
      have := (hrow.lt cb e.symm).1
      omega
    have hrd : rdA B at0 k = B[(adr at0 k).toNat] := by simp [rdA, List.getD, hlB]
    by_cases hz0 : B[(adr at0 k).toNat] = 0
    · have hz1 : ((B[(adr at0 k).toNat].toNat : Int) == 0) = true := by rw [hz0]; rfl
      have hX : SX w P p pc PB qc q at0 n B (w.heap.size + 1 + 1) w.heap.size (w.heap.size + 1) (w.heap.size + 1 + 1 + 1) cb (w.heap.size + 4) .ret (k + 1) W := ⟨rfl, k, rfl, hlt, h, hok, hrd.trans hz0⟩
      clear hz0 hrd
      gi_wp2
      exact ⟨KeepsOthers.refl _, hX⟩
    · have hz1 : ((B[(adr at0 k).toNat].toNat : Int) == 0) = false := by
        rw [beq_eq_false_iff_ne]
        intro e
        exact hz0 (UInt8.toNat_inj.1 (by simpa using e))
      have hnz : ∀ j, j < k + 1 → rdA B at0 j ≠ 0 := fun j hj => by
        by_cases e : j = k
        · subst e; rw [hrd]; exact hz0
        · exact h.2 j (by omega)
      have HNZ := Lib.hid hnz
      clear hz0 hrd hnz
      gi_wp2
      refine wpIn_region_any (by kernel_rfl) ?_
      refine wpAnyIn_ready (rs := [0, 1]) (by kernel_rfl) (by simp) ?_
      refine AllReadyIn.cons (o := ⟨_, _, _, _, _, _⟩) rfl (fun K hK => ?_) ?_
      · rw [if_pos (by rfl)]
        go_simp
        refine hK _ _ ?_
        clear hK K
        try simp only [Act.put, List.setIfInBounds_toArray, List.set_cons_zero, List.set_cons_succ]
        refine wpAnyIn_ready (rs := [1]) (by kernel_rfl) (by simp) ?_
        refine AllReadyIn.cons (o := ⟨_, _, _, _, _, _⟩) rfl (fun K hK => ?_) ?_
        · rw [if_pos (by rfl)]
          go_simp
          refine hK _ _ ?_
          clear hK K
          try simp only [Act.put, List.setIfInBounds_toArray, List.set_cons_zero, List.set_cons_succ]
          refine wpAnyIn_ready (rs := [2]) (by kernel_rfl) (by simp) ?_
          refine AllReadyIn.cons (o := ⟨_, _, _, _, _, _⟩) rfl (fun K hK => ?_) ?_
          · rw [if_pos (by rfl)]
            go_simp
            refine hK _ _ ?_
            clear hK K
            try simp only [Act.put, List.setIfInBounds_toArray, List.set_cons_zero, List.set_cons_succ]
            refine wpAnyIn_ready (rs := [3]) (by kernel_rfl) (by simp) ?_
            refine AllReadyIn.cons (o := ⟨_, _, _, _, _, _⟩) rfl (fun K hK => ?_) ?_
            · rw [if_pos (by rfl)]
              go_simp
              refine hK _ _ ?_
              clear hK K
              try simp only [Act.put, List.setIfInBounds_toArray, List.set_cons_zero, List.set_cons_succ]
              refine wpAnyIn_ready (rs := [4]) (by kernel_rfl) (by simp) ?_
              refine AllReadyIn.cons (o := ⟨_, _, _, _, _, _⟩) rfl (fun K hK => ?_) ?_
              · rw [if_pos (by rfl)]
                go_simp
                refine hK _ _ ?_
                clear hK K
                try simp only [Act.put, List.setIfInBounds_toArray, List.set_cons_zero, List.set_cons_succ]
                refine wpAnyIn_ready (rs := [5]) (by kernel_rfl) (by simp) ?_
                refine AllReadyIn.cons (o := ⟨_, _, _, _, _, _⟩) rfl (fun K hK => ?_) ?_
                · rw [if_pos (by rfl)]
                  refine wpIn_app8 _ _ rfl (w.heap.size + 4) v k (bV (rdL B at0 k)) rfl ?_ _ _ (.int .u8 (B[(adr at0 k).toNat].toNat : Int)) rfl rfl ?_ (by omega) ?_ ?_
                  · exact hrow.alloc _
                  · go_simp
                  · simp; omega
                  intro g cap w1 hown1 hgrow
                  have d0 : w1.cell? ⟨cb, 0, none⟩ = some v := by rw [hgrow.cell_far _ (by simp; omega) hne]; go_simp
                  have d1 : w1.frozen? ⟨cb, 0, none⟩ = false := by rw [hgrow.frozen_far _ (by simp; omega) hne]; go_simp
                  refine hK _ _ ?_
                  clear hK K
                  try simp only [Act.put, List.setIfInBounds_toArray, List.set_cons_zero, List.set_cons_succ]
                  refine wpAnyIn_ready (rs := [6]) (by kernel_rfl) (by simp) ?_
                  refine AllReadyIn.cons (o := ⟨_, _, _, _, _, _⟩) rfl (fun K hK => ?_) ?_
                  · rw [if_pos (by rfl)]
                    go_simp
                    refine hK _ _ ?_
                    clear hK K
                    try simp only [Act.put, List.setIfInBounds_toArray, List.set_cons_zero, List.set_cons_succ]
                    refine wpAnyIn_done (by kernel_rfl) ?_ _
                    exact ⟨(h.1.step hok hcb hp hPB hrow hlB rfl hown1 hgrow d0 d1).1, (h.1.step hok hcb hp hPB hrow hlB rfl hown1 hgrow d0 d1).2, HNZ.out⟩
                  exact AllReadyIn.nil
                exact AllReadyIn.nil
              exact AllReadyIn.nil
            exact AllReadyIn.nil
          exact AllReadyIn.nil
        exact AllReadyIn.nil
      refine AllReadyIn.cons (o := ⟨_, _, _, _, _, _⟩) rfl (fun K hK => ?_) ?_
      · rw [if_pos (by rfl)]
        go_simp
        refine hK _ _ ?_
        clear hK K
        try simp only [Act.put, List.setIfInBounds_toArray, List.set_cons_zero, List.set_cons_succ]
        refine wpAnyIn_ready (rs := [0, 2]) (by kernel_rfl) (by simp) ?_
        refine AllReadyIn.cons (o := ⟨_, _, _, _, _, _⟩) rfl (fun K hK => ?_) ?_
        · rw [if_pos (by rfl)]
          go_simp
          refine hK _ _ ?_
          clear hK K
          try simp only [Act.put, List.setIfInBounds_toArray, List.set_cons_zero, List.set_cons_succ]
          refine wpAnyIn_ready (rs := [2]) (by kernel_rfl) (by simp) ?_
          refine AllReadyIn.cons (o := ⟨_, _, _, _, _, _⟩) rfl (fun K hK => ?_) ?_
          · rw [if_pos (by rfl)]
            go_simp
            refine hK _ _ ?_
            clear hK K
            try simp only [Act.put, List.setIfInBounds_toArray, List.set_cons_zero, List.set_cons_succ]
            refine wpAnyIn_ready (rs := [3]) (by kernel_rfl) (by simp) ?_
            refine AllReadyIn.cons (o := ⟨_, _, _, _, _, _⟩) rfl (fun K hK => ?_) ?_
            · rw [if_pos (by rfl)]
              go_simp
              refine hK _ _ ?_
              clear hK K
              try simp only [Act.put, List.setIfInBounds_toArray, List.set_cons_zero, List.set_cons_succ]
              refine wpAnyIn_ready (rs := [4]) (by kernel_rfl) (by simp) ?_
              refine AllReadyIn.cons (o := ⟨_, _, _, _, _, _⟩) rfl (fun K hK => ?_) ?_
              · rw [if_pos (by rfl)]
                go_simp
                refine hK _ _ ?_
                clear hK K
                try simp only [Act.put, List.setIfInBounds_toArray, List.set_cons_zero, List.set_cons_succ]
                refine wpAnyIn_ready (rs := [5]) (by kernel_rfl) (by simp) ?_
                refine AllReadyIn.cons (o := ⟨_, _, _, _, _, _⟩) rfl (fun K hK => ?_) ?_
                · rw [if_pos (by rfl)]
                  refine wpIn_app8 _ _ rfl (w.heap.size + 4) v k (bV (rdL B at0 k)) rfl ?_ _ _ (.int .u8 (B[(adr at0 k).toNat].toNat : Int)) rfl rfl ?_ (by omega) ?_ ?_
                  · exact hrow.alloc _
                  · go_simp
                  · simp; omega
                  intro g cap w1 hown1 hgrow
                  have d0 : w1.cell? ⟨cb, 0, none⟩ = some v := by rw [hgrow.cell_far _ (by simp; omega) hne]; go_simp
                  have d1 : w1.frozen? ⟨cb, 0, none⟩ = false := by rw [hgrow.frozen_far _ (by simp; omega) hne]; go_simp
                  refine hK _ _ ?_
                  clear hK K
                  try simp only [Act.put, List.setIfInBounds_toArray, List.set_cons_zero, List.set_cons_succ]
                  refine wpAnyIn_ready (rs := [6]) (by kernel_rfl) (by simp) ?_
                  refine AllReadyIn.cons (o := ⟨_, _, _, _, _, _⟩) rfl (fun K hK => ?_) ?_
                  · rw [if_pos (by rfl)]
                    go_simp
                    refine hK _ _ ?_
                    clear hK K
                    try simp only [Act.put, List.setIfInBounds_toArray, List.set_cons_zero, List.set_cons_succ]
                    refine wpAnyIn_done (by kernel_rfl) ?_ _
                    exact ⟨(h.1.step hok hcb hp hPB hrow hlB rfl hown1 hgrow d0 d1).1, (h.1.step hok hcb hp hPB hrow hlB rfl hown1 hgrow d0 d1).2, HNZ.out⟩
                  exact AllReadyIn.nil
                exact AllReadyIn.nil
              exact AllReadyIn.nil
            exact AllReadyIn.nil
          exact AllReadyIn.nil
        refine AllReadyIn.cons (o := ⟨_, _, _, _, _, _⟩) rfl (fun K hK => ?_) ?_
        · rw [if_pos (by rfl)]
          go_simp
          refine hK _ _ ?_
          clear hK K
          try simp only [Act.put, List.setIfInBounds_toArray, List.set_cons_zero, List.set_cons_succ]
          refine wpAnyIn_ready (rs := [0, 3]) (by kernel_rfl) (by simp) ?_
          refine AllReadyIn.cons (o := ⟨_, _, _, _, _, _⟩) rfl (fun K hK => ?_) ?_
          · rw [if_pos (by rfl)]
            go_simp
            refine hK _ _ ?_
            clear hK K
            try simp only [Act.put, List.setIfInBounds_toArray, List.set_cons_zero, List.set_cons_succ]
            refine wpAnyIn_ready (rs := [3]) (by kernel_rfl) (by simp) ?_
            refine AllReadyIn.cons (o := ⟨_, _, _, _, _, _⟩) rfl (fun K hK => ?_) ?_
            · rw [if_pos (by rfl)]
              go_simp
              refine hK _ _ ?_
              clear hK K
              try simp only [Act.put, List.setIfInBounds_toArray, List.set_cons_zero, List.set_cons_succ]
              refine wpAnyIn_ready (rs := [4]) (by kernel_rfl) (by simp) ?_
              refine AllReadyIn.cons (o := ⟨_, _, _, _, _, _⟩) rfl (fun K hK => ?_) ?_
              · rw [if_pos (by rfl)]
                go_simp
                refine hK _ _ ?_
                clear hK K
                try simp only [Act.put, List.setIfInBounds_toArray, List.set_cons_zero, List.set_cons_succ]
                refine wpAnyIn_ready (rs := [5]) (by kernel_rfl) (by simp) ?_
                refine AllReadyIn.cons (o := ⟨_, _, _, _, _, _⟩) rfl (fun K hK => ?_) ?_
                · rw [if_pos (by rfl)]
                  refine wpIn_app8 _ _ rfl (w.heap.size + 4) v k (bV (rdL B at0 k)) rfl ?_ _ _ (.int .u8 (B[(adr at0 k).toNat].toNat : Int)) rfl rfl ?_ (by omega) ?_ ?_
                  · exact hrow.alloc _
                  · go_simp
                  · simp; omega
                  intro g cap w1 hown1 hgrow
                  have d0 : w1.cell? ⟨cb, 0, none⟩ = some v := by rw [hgrow.cell_far _ (by simp; omega) hne]; go_simp
                  have d1 : w1.frozen? ⟨cb, 0, none⟩ = false := by rw [hgrow.frozen_far _ (by simp; omega) hne]; go_simp
                  refine hK _ _ ?_
                  clear hK K
                  try simp only [Act.put, List.setIfInBounds_toArray, List.set_cons_zero, List.set_cons_succ]
                  refine wpAnyIn_ready (rs := [6]) (by kernel_rfl) (by simp) ?_
                  refine AllReadyIn.cons (o := ⟨_, _, _, _, _, _⟩) rfl (fun K hK => ?_) ?_
                  · rw [if_pos (by rfl)]
                    go_simp
                    refine hK _ _ ?_
                    clear hK K
                    try simp only [Act.put, List.setIfInBounds_toArray, List.set_cons_zero, List.set_cons_succ]
                    refine wpAnyIn_done (by kernel_rfl) ?_ _
                    exact ⟨(h.1.step hok hcb hp hPB hrow hlB rfl hown1 hgrow d0 d1).1, (h.1.step hok hcb hp hPB hrow hlB rfl hown1 hgrow d0 d1).2, HNZ.out⟩
                  exact AllReadyIn.nil
                exact AllReadyIn.nil
              exact AllReadyIn.nil
            exact AllReadyIn.nil
          refine AllReadyIn.cons (o := ⟨_, _, _, _, _, _⟩) rfl (fun K hK => ?_) ?_
          · rw [if_pos (by rfl)]
            go_simp
            refine hK _ _ ?_
            clear hK K
            try simp only [Act.put, List.setIfInBounds_toArray, List.set_cons_zero, List.set_cons_succ]
            refine wpAnyIn_ready (rs := [0, 4]) (by kernel_rfl) (by simp) ?_
            refine AllReadyIn.cons (o := ⟨_, _, _, _, _, _⟩) rfl (fun K hK => ?_) ?_
            · rw [if_pos (by rfl)]
              go_simp
              refine hK _ _ ?_
              clear hK K
              try simp only [Act.put, List.setIfInBounds_toArray, List.set_cons_zero, List.set_cons_succ]
              refine wpAnyIn_ready (rs := [4]) (by kernel_rfl) (by simp) ?_
              refine AllReadyIn.cons (o := ⟨_, _, _, _, _, _⟩) rfl (fun K hK => ?_) ?_
              · rw [if_pos (by rfl)]
                go_simp
                refine hK _ _ ?_
                clear hK K
                try simp only [Act.put, List.setIfInBounds_toArray, List.set_cons_zero, List.set_cons_succ]
                refine wpAnyIn_ready (rs := [5]) (by kernel_rfl) (by simp) ?_
                refine AllReadyIn.cons (o := ⟨_, _, _, _, _, _⟩) rfl (fun K hK => ?_) ?_
                · rw [if_pos (by rfl)]
                  refine wpIn_app8 _ _ rfl (w.heap.size + 4) v k (bV (rdL B at0 k)) rfl ?_ _ _ (.int .u8 (B[(adr at0 k).toNat].toNat : Int)) rfl rfl ?_ (by omega) ?_ ?_
                  · exact hrow.alloc _
                  · go_simp
                  · simp; omega
                  intro g cap w1 hown1 hgrow
                  have d0 : w1.cell? ⟨cb, 0, none⟩ = some v := by rw [hgrow.cell_far _ (by simp; omega) hne]; go_simp
                  have d1 : w1.frozen? ⟨cb, 0, none⟩ = false := by rw [hgrow.frozen_far _ (by simp; omega) hne]; go_simp
                  refine hK _ _ ?_
                  clear hK K
                  try simp only [Act.put, List.setIfInBounds_toArray, List.set_cons_zero, List.set_cons_succ]
                  refine wpAnyIn_ready (rs := [6]) (by kernel_rfl) (by simp) ?_
                  refine AllReadyIn.cons (o := ⟨_, _, _, _, _, _⟩) rfl (fun K hK => ?_) ?_
                  · rw [if_pos (by rfl)]
                    go_simp
                    refine hK _ _ ?_
                    clear hK K
                    try simp only [Act.put, List.setIfInBounds_toArray, List.set_cons_zero, List.set_cons_succ]
                    refine wpAnyIn_done (by kernel_rfl) ?_ _
                    exact ⟨(h.1.step hok hcb hp hPB hrow hlB rfl hown1 hgrow d0 d1).1, (h.1.step hok hcb hp hPB hrow hlB rfl hown1 hgrow d0 d1).2, HNZ.out⟩
                  exact AllReadyIn.nil
                exact AllReadyIn.nil
              exact AllReadyIn.nil
            refine AllReadyIn.cons (o := ⟨_, _, _, _, _, _⟩) rfl (fun K hK => ?_) ?_
            · rw [if_pos (by rfl)]
              go_simp
              refine hK _ _ ?_
              clear hK K
              try simp only [Act.put, List.setIfInBounds_toArray, List.set_cons_zero, List.set_cons_succ]
              refine wpAnyIn_ready (rs := [0]) (by kernel_rfl) (by simp) ?_
              refine AllReadyIn.cons (o := ⟨_, _, _, _, _, _⟩) rfl (fun K hK => ?_) ?_
              · rw [if_pos (by rfl)]
                go_simp
                refine hK _ _ ?_
                clear hK K
                try simp only [Act.put, List.setIfInBounds_toArray, List.set_cons_zero, List.set_cons_succ]
                refine wpAnyIn_ready (rs := [5]) (by kernel_rfl) (by simp) ?_
                refine AllReadyIn.cons (o := ⟨_, _, _, _, _, _⟩) rfl (fun K hK => ?_) ?_
                · rw [if_pos (by rfl)]
                  refine wpIn_app8 _ _ rfl (w.heap.size + 4) v k (bV (rdL B at0 k)) rfl ?_ _ _ (.int .u8 (B[(adr at0 k).toNat].toNat : Int)) rfl rfl ?_ (by omega) ?_ ?_
                  · exact hrow.alloc _
                  · go_simp
                  · simp; omega
                  intro g cap w1 hown1 hgrow
                  have d0 : w1.cell? ⟨cb, 0, none⟩ = some v := by rw [hgrow.cell_far _ (by simp; omega) hne]; go_simp
                  have d1 : w1.frozen? ⟨cb, 0, none⟩ = false := by rw [hgrow.frozen_far _ (by simp; omega) hne]; go_simp
                  refine hK _ _ ?_
                  clear hK K
                  try simp only [Act.put, List.setIfInBounds_toArray, List.set_cons_zero, List.set_cons_succ]
                  refine wpAnyIn_ready (rs := [6]) (by kernel_rfl) (by simp) ?_
                  refine AllReadyIn.cons (o := ⟨_, _, _, _, _, _⟩) rfl (fun K hK => ?_) ?_
                  · rw [if_pos (by rfl)]
                    go_simp
                    refine hK _ _ ?_
                    clear hK K
                    try simp only [Act.put, List.setIfInBounds_toArray, List.set_cons_zero, List.set_cons_succ]
                    refine wpAnyIn_done (by kernel_rfl) ?_ _
                    exact ⟨(h.1.step hok hcb hp hPB hrow hlB rfl hown1 hgrow d0 d1).1, (h.1.step hok hcb hp hPB hrow hlB rfl hown1 hgrow d0 d1).2, HNZ.out⟩
                  exact AllReadyIn.nil
                exact AllReadyIn.nil
              exact AllReadyIn.nil
            exact AllReadyIn.nil
          exact AllReadyIn.nil
        exact AllReadyIn.nil
      exact AllReadyIn.nil
  case done =>
    intro D W hDl h hD
    gi_wp2
    refine ⟨by simp, .inl ⟨_, _, rfl, run_takeDeferred hD, ?_⟩⟩
    exact ⟨_, results_none rfl _ _ _, SI.ends (h.keep (.of_put _ (by simpa using hDl) hD rfl)) (.inl ⟨.inl rfl, rfl⟩)⟩
  case stop =>
    intro D c k W hDl hk h hD
    obtain ⟨rfl, k', rfl, hk', h', hz⟩ := h
    gi_wp2
    refine ⟨by simp, .inl ⟨_, _, rfl, run_takeDeferred hD, ?_⟩⟩
    exact ⟨_, results_none rfl _ _ _, SI.ends (h'.keep (.of_put _ (by simpa using hDl) hD rfl)) (.inl ⟨.inr ⟨by omega, hz⟩, rfl⟩)⟩
  case panic =>
    intro D k chain W hDl hb h hD
    obtain ⟨hk, hne, rfl⟩ := hb
    refine ⟨by simp, .inl ⟨_, _, rfl, run_takeDeferred hD, ?_⟩⟩
    exact SI.ends (h.keep (.of_put _ (by simpa using hDl) hD rfl)) (.inr ⟨hk, hne, rfl⟩)
end Go.Proofs.Ytnapbpfofpaakaa

namespace Go.Proofs.Ytnapbpfofpaakaa
open Go.RowKit Go.Shelf

/-- How many bytes a string has; its fault. -/
def sG (P : List Int) (B : List UInt8) (at0 : Int) (n : Nat) : Nat := cnt (fun j => okA P 1 at0 j && (rdA B at0 j != 0)) n
def sK (P : List Int) (B : List UInt8) (at0 : Int) (n : Nat) : Int := if sG P B at0 n = n then 0 else kindA P 1 (adr at0 (sG P B at0 n))
def sA (P : List Int) (B : List UInt8) (at0 : Int) (n : Nat) : Int := if sK P B at0 n = 0 then 0 else adr at0 (sG P B at0 n)
theorem sG_of {P : List Int} {B : List UInt8} {at0 : Int} {n k : Nat} (hok : ∀ j, j < k → kindA P 1 (adr at0 j) = 0) (hnz : ∀ j, j < k → rdA B at0 j ≠ 0) (h : k = n ∨ (k < n ∧ (kindA P 1 (adr at0 k) ≠ 0 ∨ rdA B at0 k = 0))) : sG P B at0 n = k := by
  refine cnt_eq (by rcases h with h | h <;> omega) (fun j hj => by simp [okA, hok j hj, hnz j hj]) (fun hk => ?_)
  rcases h with h | ⟨_, h | h⟩
  · omega
  · simp [okA, h]
  · simp [h]
def StrR (w : World) (P : List Int) (at0 : Int) (n : Nat) (B : List UInt8) (cb base : Nat) (k a : Int) (w' : World) : Prop :=
  ∃ v, w'.cell? ⟨cb, 0, none⟩ = some v ∧ w'.ownsRow base 5 1 v (sG P B at0 n) (bV (rdL B at0 (sG P B at0 n))) ∧ Caught cb w w' ∧ k = sK P B at0 n ∧ a = sA P B at0 n
theorem StrEnd.toR {w : World} {P : List Int} {at0 : Int} {n : Nat} {B : List UInt8} {cb base : Nat} {e : Ending} {w' : World} (h : StrEnd w P at0 n B cb base e w') :
    (e = .returned (.tuple #[]) ∧ StrR w P at0 n B cb base 0 0 w') ∨ ∃ k a, e = .panicked (chV k a) ∧ StrR w P at0 n B cb base k a w' := by
  obtain ⟨k, v, h1, h2, h3, h4, h5, (⟨hk, he⟩ | ⟨hk, hne, he⟩)⟩ := h
  · rcases hk with rfl | ⟨hk, hk0, hz⟩
    · have hg := sG_of (n := k) h3 h4 (.inl rfl)
      refine .inl ⟨he, v, h1, by rw [hg]; exact h2, h5, by simp [sK, hg], by simp [sA, sK, hg]⟩
    · have hg := sG_of (n := n) h3 h4 (.inr ⟨hk, .inr hz⟩)
      refine .inl ⟨he, v, h1, by rw [hg]; exact h2, h5, by simp [sK, hg, hk0], by simp [sA, sK, hg, hk0]⟩
  · have hg := sG_of (n := n) (B := B) h3 h4 (.inr ⟨hk, .inl hne⟩)
    have hne' : k ≠ n := by omega
    exact .inr ⟨_, _, he, v, h1, by rw [hg]; exact h2, h5, by simp [sK, hg, hne'], by simp [sA, sK, hg, hne', hne]⟩

theorem string_caught (P : List Int) (p : Option Addr) (pc PB qc : Nat) (q : Option Addr) (hq : q = some ⟨PB, 0, none⟩ ∨ P = []) (at0 : Int) (n : Nat) (B : List UInt8) (cm ca cn cb : Nat) (w : World) (hm : P.length ≤ 32) (hn : n ≤ 2048)
    (m0 : w.cell? ⟨cm, 0, none⟩ = some (.slice p P.length pc)) (m1 : w.cell? ⟨cm, 1, none⟩ = some (.slice q P.length qc)) (a0 : w.cell? ⟨ca, 0, none⟩ = some (.int .i64 at0)) (n0 : w.cell? ⟨cn, 0, none⟩ = some (.int .i64 (n : Int)))
    (ps : SeqAt w p (iV P)) (pg : SeqAt w (some ⟨PB, 0, none⟩) (bV B)) (b0 : w.cell? ⟨cb, 0, none⟩ = some (.slice none 0 0)) (fb : w.frozen? ⟨cb, 0, none⟩ = false)
    (hp : ∀ b o, p = some ⟨b, o, none⟩ → b < cb) (hPB : PB < cb) (hBl : B.length = 64 * P.length) :
    Calls Try.prog 58 #[.func (.func 59) #[] #[.pointer (some ⟨cm, 0, none⟩), .pointer (some ⟨ca, 0, none⟩), .pointer (some ⟨cn, 0, none⟩), .pointer (some ⟨cb, 0, none⟩)]] w fun e w' =>
      ∃ v, e = .returned (ftV (sK P B at0 n) (sA P B at0 n)) ∧ w'.cell? ⟨cb, 0, none⟩ = some v ∧ w'.ownsRow w.heap.size 5 1 v (sG P B at0 n) (bV (rdL B at0 (sG P B at0 n))) ∧ Caught cb w w' := by
  have hcb := lt_of_cell b0
  have hb1 : Below w.heap.size w (w.alloc (.cells #[.int .i64 0, .int .i64 0] 34)) := (Below.refl _ w).alloc (Nat.le_refl _) _
  have up : ∀ {b o : Nat} {v : Value}, w.cell? ⟨b, o, none⟩ = some v → (w.alloc (.cells #[.int .i64 0, .int .i64 0] 34)).cell? ⟨b, o, none⟩ = some v := fun h => cell_up hb1 (lt_of_cell h) h
  have H := string1_any P p pc PB qc q hq at0 n B cm ca cn cb _ hm hn (up m0) (up m1) (up a0) (up n0) (ps.up hb1) (pg.up hb1) (up b0) (by rw [hb1.frozen hcb]; exact fb) hp hPB hBl
  refine (caught_any 59 _ (enters_of Try.func59 (by kernel_rfl) rfl) w (StrR (w.alloc (.cells #[.int .i64 0, .int .i64 0] 34)) P at0 n B cb (w.heap.size + 1 + 4)) ?_).mono ?_
  · refine H.mono fun e w' h => ?_
    have hR : StrEnd (w.alloc (.cells #[.int .i64 0, .int .i64 0] 34)) P at0 n B cb (w.heap.size + 1 + 4) e w' := by
      have := h; rwa [World.size_alloc] at this
    have h4 : Caught cb (w.alloc (.cells #[.int .i64 0, .int .i64 0] 34)) w' := by obtain ⟨_, _, _, _, _, _, h4, _⟩ := hR; exact h4
    have hz : w.heap.size < (w.alloc (.cells #[.int .i64 0, .int .i64 0] 34)).heap.size := by simp
    refine ⟨Nat.lt_of_lt_of_le hz h4.size, ?_, hR.toR⟩
    rw [h4.other _ hz (by omega)]
    exact World.alloc_heap_new w _
  · rintro e w' ⟨k, a, wm, rfl, ⟨v, h1, h2, h3, rfl, rfl⟩, hc⟩
    have hz : (w.alloc (.cells #[.int .i64 0, .int .i64 0] 34)).heap.size = w.heap.size + 1 := by simp
    have hle := h3.size
    refine ⟨v, rfl, hc.cell (by omega) h1, ownsRow_mono (by omega) (hc.own (by omega) h2), ?_⟩
    refine ⟨hc.os.trans (h3.os.trans hb1.os), hc.tape.trans (h3.tape.trans hb1.tape), hc.output.trans (h3.output.trans hb1.output), by have := hc.size; omega, fun k hk hne => ?_⟩
    rw [hc.other k (by omega) (by omega), h3.other k (by omega) hne]
    exact hb1.block k hk

set_option maxHeartbeats 1000000 in
theorem string_bad (P : List Int) (p : Option Addr) (pc : Nat) (q : Option Addr) (m qc : Nat) (at0 n : Int) (w : World) (hP : SeqAt w p (iV P)) (hs : spB P m = false) :
    Calls Try.prog 28 #[spV p P.length pc q m qc, .int .i64 at0, .int .i64 n] w fun e w' => e = .returned (.tuple #[.string ⟨#[]⟩, ftV 0 0, .int .i64 30]) ∧ Below w.heap.size w w' := by
  go_enter Try.func28, Try.ntmps28
  go_wp2_with (go_at_call 55; (refine (checkLength_bad P p pc q m qc _ _ _ (hP.up (Gr.below (by repeat (first | (with_reducible exact Gr.refl _) | with_reducible refine Gr.alloc ?_ _ | with_reducible refine Gr.more ?_ _ _ | with_reducible refine Gr.setCell ?_ (by dsimp only; omega) _ | with_reducible refine Gr.drew ?_)))) hs).mono ?_); rintro e w1 ⟨rfl, hb⟩; obtain ⟨os, n, rfl⟩ := Below.moreE hb; clear hb)
  refine bodyPost_ret (v := .tuple #[.string ⟨#[]⟩, ftV 0 0, .int .i64 30]) (by simp [results, Try.results28, go_sem, *]) rfl ⟨rfl, (Gr.below (by repeat (first | (with_reducible exact Gr.refl _) | with_reducible refine Gr.alloc ?_ _ | with_reducible refine Gr.more ?_ _ _ | with_reducible refine Gr.setCell ?_ (by dsimp only; omega) _ | with_reducible refine Gr.drew ?_)))⟩
set_option maxHeartbeats 1000000 in
theorem string_arg (P : List Int) (p : Option Addr) (pc : Nat) (q : Option Addr) (m qc : Nat) (at0 n : Int) (w : World) (hP : SeqAt w p (iV P)) (hs : spB P m = true) (hn : n < 0 ∨ 64 < n) :
    Calls Try.prog 28 #[spV p P.length pc q m qc, .int .i64 at0, .int .i64 n] w fun e w' => e = .returned (.tuple #[.string ⟨#[]⟩, ftV 0 0, .int .i64 1]) ∧ Below w.heap.size w w' := by
  go_enter Try.func28, Try.ntmps28
  go_wp2_with (go_at_call 55; (refine (checkLength_arg P p pc q m qc _ _ _ (hP.up (Gr.below (by repeat (first | (with_reducible exact Gr.refl _) | with_reducible refine Gr.alloc ?_ _ | with_reducible refine Gr.more ?_ _ _ | with_reducible refine Gr.setCell ?_ (by dsimp only; omega) _ | with_reducible refine Gr.drew ?_)))) hs hn).mono ?_); rintro e w1 ⟨rfl, hb⟩; obtain ⟨os, n, rfl⟩ := Below.moreE hb; clear hb)
  refine bodyPost_ret (v := .tuple #[.string ⟨#[]⟩, ftV 0 0, .int .i64 1]) (by simp [results, Try.results28, go_sem, *]) rfl ⟨rfl, (Gr.below (by repeat (first | (with_reducible exact Gr.refl _) | with_reducible refine Gr.alloc ?_ _ | with_reducible refine Gr.more ?_ _ _ | with_reducible refine Gr.setCell ?_ (by dsimp only; omega) _ | with_reducible refine Gr.drew ?_)))⟩

set_option maxRecDepth 100000 in
set_option maxHeartbeats 2000000 in
theorem string_flt (P : List Int) (p : Option Addr) (pc : Nat) (B : List UInt8) (q : Option Addr) (qc : Nat) (at0 : Int) (nn : Nat) (w : World) (hS : SpAt w P p B q qc) (hs : spB P B.length = true) (hn : nn ≤ 64) (hf : sK P B at0 nn ≠ 0) :
    Calls Try.prog 28 #[spV p P.length pc q B.length qc, .int .i64 at0, .int .i64 (nn : Int)] w fun e w' => e = .returned (.tuple #[.string ⟨#[]⟩, ftV (sK P B at0 nn) (sA P B at0 nn), .int .i64 0]) ∧ Below w.heap.size w w' := by
  have h0 : ¬ (nn : Int) < 0 := by omega
  have h1 : ¬ (64 : Int) < (nn : Int) := by omega
  have HL := Lib.hid (spB_len hs)
  have HO : Hid (nn ≤ 2048) := Lib.hid (by omega)
  have HS := Lib.hid hS
  have hmf : ∀ (fn : Fn) (first cap : Array Value) (w : World), (Instr.makeFunc fn first cap).run Try.prog w = .ok (.func fn first cap) w := fun _ _ _ _ => rfl
  have SC := string_caught P p pc
  have hf' : (sK P B at0 nn != 0) = true := bne_iff_ne.2 hf
  clear hn hS hf
  go_enter Try.func28, Try.ntmps28
  go_wp2_with first | (go_at_call 55; (refine (checkLength_ok P p pc q B.length qc _ _ _ (HS.out.up (Gr.below (by repeat (first | (with_reducible exact Gr.refl _) | with_reducible refine Gr.alloc ?_ _ | with_reducible refine Gr.more ?_ _ _ | with_reducible refine Gr.setCell ?_ (by dsimp only; omega) _ | with_reducible refine Gr.drew ?_)))).perm hs h0 h1).mono ?_); rintro e w1 ⟨rfl, hb⟩; obtain ⟨oc, zc, rfl⟩ := Below.moreE hb; clear hb) | (go_at_call 56; (refine (memoryOf_r P p pc B q qc _ HL.out.1 HL.out.2 (HS.out.up (Gr.below (by repeat (first | (with_reducible exact Gr.refl _) | with_reducible refine Gr.alloc ?_ _ | with_reducible refine Gr.more ?_ _ _ | with_reducible refine Gr.setCell ?_ (by dsimp only; omega) _ | with_reducible refine Gr.drew ?_))))).mono ?_); rintro e w1 ⟨q2, c2, PB, rfl, hq2, hpg, hlt, hb⟩; have hb1 : Below w.heap.size w w1 := Below.trans (Gr.below (by repeat (first | (with_reducible exact Gr.refl _) | with_reducible refine Gr.alloc ?_ _ | with_reducible refine Gr.more ?_ _ _ | with_reducible refine Gr.setCell ?_ (by dsimp only; omega) _ | with_reducible refine Gr.drew ?_))) (hb.mono (by simp; omega)); have a0 : w1.cell? ⟨w.heap.size + 1, 0, none⟩ = some (.int .i64 at0) := (by rw [hb.cell (by simp; omega)]; go_simp); have n0 : w1.cell? ⟨w.heap.size + 1 + 1, 0, none⟩ = some (.int .i64 (nn : Int)) := (by rw [hb.cell (by simp; omega)]; go_simp); have r0 : w1.cell? ⟨w.heap.size + 1 + 1 + 1, 0, none⟩ = some (.int .i64 0) := (by rw [hb.cell (by simp; omega)]; go_simp); have r1 : w1.cell? ⟨w.heap.size + 1 + 1 + 1, 1, none⟩ = some (.int .i64 0) := (by rw [hb.cell (by simp; omega)]; go_simp); have f0 : w1.frozen? ⟨w.heap.size + 1 + 1 + 1, 0, none⟩ = false := (by rw [hb.frozen (by simp; omega)]; go_simp); have f1 : w1.frozen? ⟨w.heap.size + 1 + 1 + 1, 1, none⟩ = false := (by rw [hb.frozen (by simp; omega)]; go_simp); have hz := hb.size; simp at hz; clear hb) | (go_at_call 58; (refine (SC PB c2 q2 hq2 at0 nn B w1.heap.size (w.heap.size + 1) (w.heap.size + 1 + 1) (w1.heap.size + 1) _ HL.out.1 HO.out (by go_simp) (by go_simp) (up1 (up1 a0 _) _) (up1 (up1 n0 _) _) (HS.out.up ((hb1.alloc hb1.size _).alloc (by simp; omega) _)).perm (hpg.up (Gr.below (by repeat (first | (with_reducible exact Gr.refl _) | with_reducible refine Gr.alloc ?_ _ | with_reducible refine Gr.more ?_ _ _ | with_reducible refine Gr.setCell ?_ (by dsimp only; omega) _ | with_reducible refine Gr.drew ?_)))) (by go_simp) (by go_simp) (fun b o e => by have := HS.out.old b o e; have := hb1.size; omega) (by omega) HL.out.2).mono ?_); rintro e w2 ⟨v, rfl, c0, hown, hbut⟩; have r0' := r0; have r1' := r1; obtain ⟨vq, vc, rfl⟩ := own_sl hown; replace r0 : w2.cell? ⟨w.heap.size + 1 + 1 + 1, 0, none⟩ = some (.int .i64 0) := hbut.cell (by omega) (up1 (up1 r0 _) _); replace r1 : w2.cell? ⟨w.heap.size + 1 + 1 + 1, 1, none⟩ = some (.int .i64 0) := hbut.cell (by omega) (up1 (up1 r1 _) _); have hblk := hbut.other (w.heap.size + 1 + 1 + 1) (by simp; omega) (by omega); have g0 := fr1 (up1 r0' (.cells #[.slice p P.length pc, .slice q2 P.length c2] 106)) (fr1 r0' f0 (.cells #[.slice p P.length pc, .slice q2 P.length c2] 106)) (.cells #[.slice none 0 0] 23); have g1 := fr1 (up1 r1' (.cells #[.slice p P.length pc, .slice q2 P.length c2] 106)) (fr1 r1' f1 (.cells #[.slice p P.length pc, .slice q2 P.length c2] 106)) (.cells #[.slice none 0 0] 23); replace f0 : w2.frozen? ⟨w.heap.size + 1 + 1 + 1, 0, none⟩ = false := (World.frozen?_of_block hblk).trans g0; replace f1 : w2.frozen? ⟨w.heap.size + 1 + 1 + 1, 1, none⟩ = false := (World.frozen?_of_block hblk).trans g1; have hz2 := hbut.size; simp at hz2; have hb3 : Below w.heap.size w w2 := Caught.below ((hb1.alloc hb1.size _).alloc (by simp; omega) _) hbut (by omega) (by simp; omega); clear hblk g0 g1 r0' r1')
  go_region_with (fail)
  go_wp2_with fail
  refine bodyPost_ret (v := .tuple #[.string ⟨#[]⟩, ftV (sK P B at0 nn) (sA P B at0 nn), .int .i64 0]) (by simp [results, Try.results28, go_sem, *]) rfl ⟨rfl, ?_⟩
  exact (((hb3.alloc hb3.size _).drew).setCell (by dsimp only; omega) _).setCell (by dsimp only; omega) _

set_option maxRecDepth 100000 in
set_option maxHeartbeats 2000000 in
theorem string_ok (P : List Int) (p : Option Addr) (pc : Nat) (B : List UInt8) (q : Option Addr) (qc : Nat) (at0 : Int) (nn : Nat) (w : World) (hS : SpAt w P p B q qc) (hs : spB P B.length = true) (hn : nn ≤ 64) (hf : sK P B at0 nn = 0) :
    Calls Try.prog 28 #[spV p P.length pc q B.length qc, .int .i64 at0, .int .i64 (nn : Int)] w fun e w' => e = .returned (.tuple #[.string ⟨(rdL B at0 (sG P B at0 nn)).toArray⟩, ftV 0 0, .int .i64 0]) ∧ Below w.heap.size w w' := by
  have h0 : ¬ (nn : Int) < 0 := by omega
  have h1 : ¬ (64 : Int) < (nn : Int) := by omega
  have HL := Lib.hid (spB_len hs)
  have HO : Hid (nn ≤ 2048) := Lib.hid (by omega)
  have HS := Lib.hid hS
  have hmf : ∀ (fn : Fn) (first cap : Array Value) (w : World), (Instr.makeFunc fn first cap).run Try.prog w = .ok (.func fn first cap) w := fun _ _ _ _ => rfl
  have hA : sA P B at0 nn = 0 := by simp [sA, hf]
  have SC := fun PB c2 q2 hq => string_caught P p pc PB c2 q2 hq at0 nn B
  simp only [hf, hA] at SC
  clear hn hS hf hA
  go_enter Try.func28, Try.ntmps28
  go_wp2_with first | (go_at_call 55; (refine (checkLength_ok P p pc q B.length qc _ _ _ (HS.out.up (Gr.below (by repeat (first | (with_reducible exact Gr.refl _) | with_reducible refine Gr.alloc ?_ _ | with_reducible refine Gr.more ?_ _ _ | with_reducible refine Gr.setCell ?_ (by dsimp only; omega) _ | with_reducible refine Gr.drew ?_)))).perm hs h0 h1).mono ?_); rintro e w1 ⟨rfl, hb⟩; obtain ⟨oc, zc, rfl⟩ := Below.moreE hb; clear hb) | (go_at_call 56; (refine (memoryOf_r P p pc B q qc _ HL.out.1 HL.out.2 (HS.out.up (Gr.below (by repeat (first | (with_reducible exact Gr.refl _) | with_reducible refine Gr.alloc ?_ _ | with_reducible refine Gr.more ?_ _ _ | with_reducible refine Gr.setCell ?_ (by dsimp only; omega) _ | with_reducible refine Gr.drew ?_))))).mono ?_); rintro e w1 ⟨q2, c2, PB, rfl, hq2, hpg, hlt, hb⟩; have hb1 : Below w.heap.size w w1 := Below.trans (Gr.below (by repeat (first | (with_reducible exact Gr.refl _) | with_reducible refine Gr.alloc ?_ _ | with_reducible refine Gr.more ?_ _ _ | with_reducible refine Gr.setCell ?_ (by dsimp only; omega) _ | with_reducible refine Gr.drew ?_))) (hb.mono (by simp; omega)); have a0 : w1.cell? ⟨w.heap.size + 1, 0, none⟩ = some (.int .i64 at0) := (by rw [hb.cell (by simp; omega)]; go_simp); have n0 : w1.cell? ⟨w.heap.size + 1 + 1, 0, none⟩ = some (.int .i64 (nn : Int)) := (by rw [hb.cell (by simp; omega)]; go_simp); have r0 : w1.cell? ⟨w.heap.size + 1 + 1 + 1, 0, none⟩ = some (.int .i64 0) := (by rw [hb.cell (by simp; omega)]; go_simp); have r1 : w1.cell? ⟨w.heap.size + 1 + 1 + 1, 1, none⟩ = some (.int .i64 0) := (by rw [hb.cell (by simp; omega)]; go_simp); have f0 : w1.frozen? ⟨w.heap.size + 1 + 1 + 1, 0, none⟩ = false := (by rw [hb.frozen (by simp; omega)]; go_simp); have f1 : w1.frozen? ⟨w.heap.size + 1 + 1 + 1, 1, none⟩ = false := (by rw [hb.frozen (by simp; omega)]; go_simp); have hz := hb.size; simp at hz; clear hb) | (go_at_call 58; (refine (SC PB c2 q2 hq2 w1.heap.size (w.heap.size + 1) (w.heap.size + 1 + 1) (w1.heap.size + 1) _ HL.out.1 HO.out (by go_simp) (by go_simp) (up1 (up1 a0 _) _) (up1 (up1 n0 _) _) (HS.out.up ((hb1.alloc hb1.size _).alloc (by simp; omega) _)).perm (hpg.up (Gr.below (by repeat (first | (with_reducible exact Gr.refl _) | with_reducible refine Gr.alloc ?_ _ | with_reducible refine Gr.more ?_ _ _ | with_reducible refine Gr.setCell ?_ (by dsimp only; omega) _ | with_reducible refine Gr.drew ?_)))) (by go_simp) (by go_simp) (fun b o e => by have := HS.out.old b o e; have := hb1.size; omega) (by omega) HL.out.2).mono ?_); rintro e w2 ⟨v, rfl, c0, hown, hbut⟩; have r0' := r0; have r1' := r1; obtain ⟨vq, vc, rfl⟩ := own_sl hown; have hcv := conv_any (rdL B at0 (sG P B at0 nn)) vq vc (w2.alloc (.cells #[.int .i64 0, .int .i64 0] 34)) (((SeqFar.own hown).1.at).up ((Below.refl _ w2).alloc (Nat.le_refl _) _)); rw [rdL_len] at hcv; replace r0 : w2.cell? ⟨w.heap.size + 1 + 1 + 1, 0, none⟩ = some (.int .i64 0) := hbut.cell (by omega) (up1 (up1 r0 _) _); replace r1 : w2.cell? ⟨w.heap.size + 1 + 1 + 1, 1, none⟩ = some (.int .i64 0) := hbut.cell (by omega) (up1 (up1 r1 _) _); have hblk := hbut.other (w.heap.size + 1 + 1 + 1) (by simp; omega) (by omega); have g0 := fr1 (up1 r0' (.cells #[.slice p P.length pc, .slice q2 P.length c2] 106)) (fr1 r0' f0 (.cells #[.slice p P.length pc, .slice q2 P.length c2] 106)) (.cells #[.slice none 0 0] 23); have g1 := fr1 (up1 r1' (.cells #[.slice p P.length pc, .slice q2 P.length c2] 106)) (fr1 r1' f1 (.cells #[.slice p P.length pc, .slice q2 P.length c2] 106)) (.cells #[.slice none 0 0] 23); replace f0 : w2.frozen? ⟨w.heap.size + 1 + 1 + 1, 0, none⟩ = false := (World.frozen?_of_block hblk).trans g0; replace f1 : w2.frozen? ⟨w.heap.size + 1 + 1 + 1, 1, none⟩ = false := (World.frozen?_of_block hblk).trans g1; have hz2 := hbut.size; simp at hz2; have hb3 : Below w.heap.size w w2 := Caught.below ((hb1.alloc hb1.size _).alloc (by simp; omega) _) hbut (by omega) (by simp; omega); clear hblk g0 g1 r0' r1')
  refine bodyPost_ret (v := .tuple #[.string ⟨(rdL B at0 (sG P B at0 nn)).toArray⟩, ftV 0 0, .int .i64 0]) (by simp [results, Try.results28, go_sem, *]) rfl ⟨rfl, ?_⟩
  exact ((hb3.alloc hb3.size _).setCell (by dsimp only; omega) _).setCell (by dsimp only; omega) _
end Go.Proofs.Ytnapbpfofpaakaa

namespace Go.Proofs.Ytnapbpfofpaakaa
open Go.RowKit Go.Shelf

def dfs (B B2 : List UInt8) (k : Nat) : List Nat := (List.range k).filter (fun j => B.getD j 0 != B2.getD j 0)
def chC (B B2 : List UInt8) (j : Nat) : List Value := [.int .i64 (j : Int), .int .u8 ((B.getD j 0).toNat : Int), .int .u8 ((B2.getD j 0).toNat : Int)]
def dfC (B B2 : List UInt8) (k : Nat) : List Value := (dfs B B2 k).flatMap (chC B B2)
theorem dfs_eq {B B2 : List UInt8} {k : Nat} (h : B.getD k 0 = B2.getD k 0) : dfs B B2 (k + 1) = dfs B B2 k := by
  simp only [List.getD] at h; simp only [dfs, List.range_succ, List.filter_append, List.getD]; simp [h]
theorem dfs_ne {B B2 : List UInt8} {k : Nat} (h : B.getD k 0 ≠ B2.getD k 0) : dfs B B2 (k + 1) = dfs B B2 k ++ [k] := by
  simp only [List.getD] at h; simp only [dfs, List.range_succ, List.filter_append, List.getD]; simp [h]
theorem dfs_len (B B2 : List UInt8) (k : Nat) : (dfs B B2 k).length ≤ k := by
  have := List.length_filter_le (fun j => B.getD j 0 != B2.getD j 0) (List.range k)
  simpa [dfs] using this
theorem A_infoC : (Try.prog.info? 89).map (fun i => (i.zero, i.size, i.bytes)) = some (some (.agg #[.int .i64 0, .int .u8 0, .int .u8 0]), 3, 16) := by kernel_rfl

theorem own_lowN {w : World} {base base' sz : Nat} {e : TypeId} {v : Value} {n : Nat} {xs : List Value} (hb : base' ≤ base) (ho : w.ownsRow base e sz v n xs) : w.ownsRow base' e sz v n xs := by
  obtain ⟨h1, h2⟩ := ho
  refine ⟨h1, ?_⟩
  rcases h2 with h2 | ⟨gg, cap, cur, hv, hbg, hg, h3⟩
  · exact .inl h2
  · exact .inr ⟨gg, cap, cur, hv, by omega, hg, h3⟩
theorem al_grown {w w' : World} {a : Addr} {u : Value} {q : Option Nat} {ob : Obj} (h : w.cell? a = some u) (g : (w.alloc ob).grownBy w' q) (ha : some a.block ≠ q) : w'.cell? a = some u := by
  have h1 := up1 h ob
  rw [g.cell_far a (World.block_lt_of_cell? _ a h1) ha]; exact h1

set_option maxHeartbeats 1000000 in
theorem diff_bad (P : List Int) (p : Option Addr) (pc : Nat) (q : Option Addr) (m qc : Nat) (P2 : List Int) (p2 : Option Addr) (pc2 : Nat) (q2 : Option Addr) (m2 qc2 : Nat) (w : World) (h1 : SeqAt w p (iV P)) (h2 : SeqAt w p2 (iV P2)) (hs : (spB P m && spB P2 m2) = false) :
    Calls Try.prog 39 #[spV p P.length pc q m qc, spV p2 P2.length pc2 q2 m2 qc2] w fun e w' => e = .returned (.tuple #[.slice none 0 0, .int .i64 30]) ∧ Below w.heap.size w w' := by
  have C1 : ∀ W, Below w.heap.size w W → Calls Try.prog 21 #[spV p P.length pc q m qc] W fun e w' => e = .returned (.int .i64 (spE P m)) ∧ Below W.heap.size W w' := fun W h => mcheck_any P p pc q m qc W (h1.up h)
  have C2 : ∀ W, Below w.heap.size w W → Calls Try.prog 21 #[spV p2 P2.length pc2 q2 m2 qc2] W fun e w' => e = .returned (.int .i64 (spE P2 m2)) ∧ Below W.heap.size W w' := fun W h => mcheck_any P2 p2 pc2 q2 m2 qc2 W (h2.up h)
  cases hs1 : spB P m
  · rw [spE_bad hs1] at C1
    go_enter Try.func39, Try.ntmps39
    go_wp2_with (go_at_call 21; (with_reducible refine (C1 _ ?hpp).mono ?_; case hpp => exact (Gr.below (by repeat (first | (with_reducible exact Gr.refl _) | with_reducible refine Gr.alloc ?_ _ | with_reducible refine Gr.more ?_ _ _ | with_reducible refine Gr.setCell ?_ (by dsimp only; omega) _ | with_reducible refine Gr.drew ?_)))); rintro e w1 ⟨rfl, hb⟩; obtain ⟨os, n, rfl⟩ := Below.moreE hb; clear hb)
    go_ret2
    exact ⟨rfl, (Gr.below (by repeat (first | (with_reducible exact Gr.refl _) | with_reducible refine Gr.alloc ?_ _ | with_reducible refine Gr.more ?_ _ _ | with_reducible refine Gr.setCell ?_ (by dsimp only; omega) _ | with_reducible refine Gr.drew ?_)))⟩
  · rw [spE_ok hs1] at C1
    rw [hs1] at hs
    rw [spE_bad (by simpa using hs)] at C2
    go_enter Try.func39, Try.ntmps39
    go_wp2_with first | (go_at_call 21; (with_reducible refine (C1 _ ?hpp).mono ?_; case hpp => exact (Gr.below (by repeat (first | (with_reducible exact Gr.refl _) | with_reducible refine Gr.alloc ?_ _ | with_reducible refine Gr.more ?_ _ _ | with_reducible refine Gr.setCell ?_ (by dsimp only; omega) _ | with_reducible refine Gr.drew ?_)))); rintro e w1 ⟨rfl, hb⟩; obtain ⟨os, n, rfl⟩ := Below.moreE hb; clear hb) | (go_at_call 21; (with_reducible refine (C2 _ ?hpp).mono ?_; case hpp => exact (Gr.below (by repeat (first | (with_reducible exact Gr.refl _) | with_reducible refine Gr.alloc ?_ _ | with_reducible refine Gr.more ?_ _ _ | with_reducible refine Gr.setCell ?_ (by dsimp only; omega) _ | with_reducible refine Gr.drew ?_)))); rintro e w1 ⟨rfl, hb⟩; obtain ⟨os, n, rfl⟩ := Below.moreE hb; clear hb)
    go_ret2
    exact ⟨rfl, (Gr.below (by repeat (first | (with_reducible exact Gr.refl _) | with_reducible refine Gr.alloc ?_ _ | with_reducible refine Gr.more ?_ _ _ | with_reducible refine Gr.setCell ?_ (by dsimp only; omega) _ | with_reducible refine Gr.drew ?_)))⟩

set_option maxHeartbeats 1000000 in
theorem diff_arg (P : List Int) (p : Option Addr) (pc : Nat) (q : Option Addr) (m qc : Nat) (P2 : List Int) (p2 : Option Addr) (pc2 : Nat) (q2 : Option Addr) (m2 qc2 : Nat) (w : World) (h1 : SeqAt w p (iV P)) (h2 : SeqAt w p2 (iV P2)) (hs1 : spB P m = true) (hs2 : spB P2 m2 = true) (hne : (P == P2) = false) :
    Calls Try.prog 39 #[spV p P.length pc q m qc, spV p2 P2.length pc2 q2 m2 qc2] w fun e w' => e = .returned (.tuple #[.slice none 0 0, .int .i64 1]) ∧ Below w.heap.size w w' := by
  have C1 : ∀ W, Below w.heap.size w W → Calls Try.prog 21 #[spV p P.length pc q m qc] W fun e w' => e = .returned (.int .i64 (spE P m)) ∧ Below W.heap.size W w' := fun W h => mcheck_any P p pc q m qc W (h1.up h)
  have C2 : ∀ W, Below w.heap.size w W → Calls Try.prog 21 #[spV p2 P2.length pc2 q2 m2 qc2] W fun e w' => e = .returned (.int .i64 (spE P2 m2)) ∧ Below W.heap.size W w' := fun W h => mcheck_any P2 p2 pc2 q2 m2 qc2 W (h2.up h)
  have l1 := (spB_len hs1).1
  have l2 := (spB_len hs2).1
  have E1 : ∀ W, Below w.heap.size w W → Calls Try.prog 53 #[.slice p P.length pc, .slice p2 P2.length pc2] W fun e w' => e = .returned (.bool (P == P2)) ∧ Below W.heap.size W w' := fun W h => equalI_any P P2 p p2 pc pc2 W (h1.up h) (h2.up h) (by omega) (by omega)
  rw [spE_ok hs1] at C1
  rw [spE_ok hs2] at C2
  rw [hne] at E1
  clear l1 l2
  go_enter Try.func39, Try.ntmps39
  go_wp2_with first | (go_at_call 21; (with_reducible refine (C1 _ ?hpp).mono ?_; case hpp => exact (Gr.below (by repeat (first | (with_reducible exact Gr.refl _) | with_reducible refine Gr.alloc ?_ _ | with_reducible refine Gr.more ?_ _ _ | with_reducible refine Gr.setCell ?_ (by dsimp only; omega) _ | with_reducible refine Gr.drew ?_)))); rintro e w1 ⟨rfl, hb⟩; obtain ⟨os, n, rfl⟩ := Below.moreE hb; clear hb) | (go_at_call 21; (with_reducible refine (C2 _ ?hpp).mono ?_; case hpp => exact (Gr.below (by repeat (first | (with_reducible exact Gr.refl _) | with_reducible refine Gr.alloc ?_ _ | with_reducible refine Gr.more ?_ _ _ | with_reducible refine Gr.setCell ?_ (by dsimp only; omega) _ | with_reducible refine Gr.drew ?_)))); rintro e w1 ⟨rfl, hb⟩; obtain ⟨os, n, rfl⟩ := Below.moreE hb; clear hb) | (go_at_call 53; (refine (E1 _ (Gr.below (by repeat (first | (with_reducible exact Gr.refl _) | with_reducible refine Gr.alloc ?_ _ | with_reducible refine Gr.more ?_ _ _ | with_reducible refine Gr.setCell ?_ (by dsimp only; omega) _ | with_reducible refine Gr.drew ?_)))).mono ?_); rintro e w1 ⟨rfl, hb⟩; obtain ⟨os, n, rfl⟩ := Below.moreE hb; clear hb)
  go_ret2
  exact ⟨rfl, (Gr.below (by repeat (first | (with_reducible exact Gr.refl _) | with_reducible refine Gr.alloc ?_ _ | with_reducible refine Gr.more ?_ _ _ | with_reducible refine Gr.setCell ?_ (by dsimp only; omega) _ | with_reducible refine Gr.drew ?_)))⟩

set_option maxRecDepth 100000 in
set_option maxHeartbeats 2000000 in
theorem diff_ok (P : List Int) (p : Option Addr) (pc : Nat) (B : List UInt8) (q : Option Addr) (qc : Nat) (p2 : Option Addr) (pc2 : Nat) (B2 : List UInt8) (q2 : Option Addr) (qc2 : Nat) (w : World) (h1 : SeqAt w p (iV P)) (h2 : SeqAt w p2 (iV P)) (hq1 : SeqAt w q (bV B)) (hq2 : SeqAt w q2 (bV B2)) (hs1 : spB P B.length = true) (hs2 : spB P B2.length = true) :
    Calls Try.prog 39 #[spV p P.length pc q B.length qc, spV p2 P.length pc2 q2 B2.length qc2] w fun e w' => ∃ v, e = .returned (.tuple #[v, .int .i64 0]) ∧ w'.ownsRow w.heap.size 89 3 v (dfs B B2 B.length).length (dfC B B2 B.length) ∧ Below w.heap.size w w' := by
  have C1 : ∀ W, Below w.heap.size w W → Calls Try.prog 21 #[spV p P.length pc q B.length qc] W fun e w' => e = .returned (.int .i64 (spE P B.length)) ∧ Below W.heap.size W w' := fun W h => mcheck_any P p pc q B.length qc W (h1.up h)
  have C2 : ∀ W, Below w.heap.size w W → Calls Try.prog 21 #[spV p2 P.length pc2 q2 B2.length qc2] W fun e w' => e = .returned (.int .i64 (spE P B2.length)) ∧ Below W.heap.size W w' := fun W h => mcheck_any P p2 pc2 q2 B2.length qc2 W (h2.up h)
  have l1 := (spB_len hs1)
  have l2 := (spB_len hs2)
  have E1 : ∀ W, Below w.heap.size w W → Calls Try.prog 53 #[.slice p P.length pc, .slice p2 P.length pc2] W fun e w' => e = .returned (.bool (P == P)) ∧ Below W.heap.size W w' := fun W h => equalI_any P P p p2 pc pc2 W (h1.up h) (h2.up h) (by omega) (by omega)
  rw [spE_ok hs1] at C1
  rw [spE_ok hs2] at C2
  rw [beq_self_eq_true] at E1
  obtain ⟨i0, hi, hz0, hz1, hz2⟩ := info_parts A_infoC
  have hBi : (B.length : Int) ≤ 2048 := by omega
  have HBB : Hid (B2.length = B.length) := Lib.hid (by omega)
  have HQ1 := Lib.hid hq1
  have HQ2 := Lib.hid hq2
  clear l1 l2 hs1 hs2 h1 h2 hq1 hq2
  go_enter Try.func39, Try.ntmps39
  go_wp2_with first | (go_at_call 21; (with_reducible refine (C1 _ ?hpp).mono ?_; case hpp => exact (Gr.below (by repeat (first | (with_reducible exact Gr.refl _) | with_reducible refine Gr.alloc ?_ _ | with_reducible refine Gr.more ?_ _ _ | with_reducible refine Gr.setCell ?_ (by dsimp only; omega) _ | with_reducible refine Gr.drew ?_)))); rintro e w1 ⟨rfl, hb⟩; obtain ⟨os, n, rfl⟩ := Below.moreE hb; clear hb) | (go_at_call 21; (with_reducible refine (C2 _ ?hpp).mono ?_; case hpp => exact (Gr.below (by repeat (first | (with_reducible exact Gr.refl _) | with_reducible refine Gr.alloc ?_ _ | with_reducible refine Gr.more ?_ _ _ | with_reducible refine Gr.setCell ?_ (by dsimp only; omega) _ | with_reducible refine Gr.drew ?_)))); rintro e w1 ⟨rfl, hb⟩; obtain ⟨os, n, rfl⟩ := Below.moreE hb; clear hb) | (go_at_call 53; (refine (E1 _ (Gr.below (by repeat (first | (with_reducible exact Gr.refl _) | with_reducible refine Gr.alloc ?_ _ | with_reducible refine Gr.more ?_ _ _ | with_reducible refine Gr.setCell ?_ (by dsimp only; omega) _ | with_reducible refine Gr.drew ?_)))).mono ?_); rintro e w1 ⟨rfl, hb⟩; obtain ⟨os, n, rfl⟩ := Below.moreE hb; clear hb)
  go_loopw [6, 26] (fun l i wr => ∃ (v : Value) (k : Nat), v = l ∧ k ≤ B.length ∧ i = .int .i64 (k : Int) ∧ wr.cell? ⟨w.heap.size + 1, 0, none⟩ = some (.slice p2 P.length pc2) ∧ wr.cell? ⟨w.heap.size + 1, 1, none⟩ = some (.slice q2 B2.length qc2) ∧ wr.ownsRow (w.heap.size + 2) 89 3 v (dfs B B2 k).length (dfC B B2 k) ∧ w.heap.size + 2 ≤ wr.heap.size ∧ Below w.heap.size w wr) (fun _ i _ => B.length - (intOf i).toNat)
  case atStart => exact ⟨_, 0, rfl, Nat.zero_le _, rfl, by go_simp, by go_simp, World.ownsRow_nil _ _ _ _, by simp <;> omega, (Gr.below (by repeat (first | (with_reducible exact Gr.refl _) | with_reducible refine Gr.alloc ?_ _ | with_reducible refine Gr.more ?_ _ _ | with_reducible refine Gr.setCell ?_ (by dsimp only; omega) _ | with_reducible refine Gr.drew ?_)))⟩
  case round =>
    obtain ⟨v, k, rfl, hk, rfl, c0, c1, hown, hz, hB⟩ := hrel
    by_cases hlt : k < B.length
    · have hlt' : (k : Int) < (B.length : Int) := by omega
      have hk2 : k < B2.length := by have := HBB.out; omega
      have hlt2 : (k : Int) < (B2.length : Int) := by omega
      obtain ⟨b, o, rfl, hcx⟩ := HQ1.out.get (by rw [bV_len]; omega)
      obtain ⟨c, o2, rfl, hcy⟩ := HQ2.out.get (by rw [bV_len]; omega)
      have cx := hcx k _ (bV_get B k hlt)
      have cy := hcy k _ (bV_get B2 k hk2)
      replace cx := cell_up hB (lt_of_cell cx) cx
      replace cy := cell_up hB (lt_of_cell cy) cy
      have g1 : B.getD k 0 = B[k] := by simp [List.getD, hlt]
      have g2 : B2.getD k 0 = B2[k] := by simp [List.getD, hk2]
      clear hcx hcy
      by_cases he : B[k] = B2[k]
      · have he' : (((B[k].toNat : Int)) != (B2[k].toNat : Int)) = false := by rw [he]; simp
        have hown2 : wr.ownsRow (w.heap.size + 2) 89 3 v (dfs B B2 (k + 1)).length (dfC B B2 (k + 1)) := by
          unfold dfC; rw [dfs_eq (by rw [g1, g2, he])]; exact hown
        clear he g1 g2
        go_wp2_with fail
        exact ⟨⟨_, k + 1, rfl, hlt, by push_cast; rfl, c0, c1, hown2, hz, hB⟩, by show B.length - ((k : Int) + 1).toNat < B.length - (k : Int).toNat; omega⟩
      · have he' : (((B[k].toNat : Int)) != (B2[k].toNat : Int)) = true := by
          rw [bne_iff_ne]; intro e; exact he (UInt8.toNat_inj.1 (by omega))
        have hln := dfs_len B B2 k
        have HE := Lib.hid (dfs_ne (B := B) (B2 := B2) (k := k) (by rw [g1, g2]; exact he))
        have HG := Lib.hid (And.intro g1 g2)
        clear he g1 g2
        go_wp2_with (at_builtin; refine wpList_append_own _ rfl _ _ 78 rfl (w.heap.size + 2) 89 i0 (.agg #[.int .i64 0, .int .u8 0, .int .u8 0]) 3 16 Try.underlying78 hi hz0 hz1 hz2 rfl (by decide) v (dfs B B2 k).length (dfC B B2 k) rfl (own_below hown ((Below.refl _ wr).alloc (Nat.le_refl _) _)) ⟨wr.heap.size, 0, none⟩ 1 1 (chC B B2 k) rfl ?qc1 ?qc2 ?qc3 ?qc4 ?qc5 ?qc6 ?_)
        case qc1 => rfl
        case qc2 =>
          intro j u hj
          rw [show chC B B2 k = [.int .i64 (k : Int), .int .u8 (B[k].toNat : Int), .int .u8 (B2[k].toNat : Int)] by simp only [chC, HG.out.1, HG.out.2]] at hj
          rw [Addr.add_lit, Nat.zero_add]
          unfold World.cell?
          rw [World.alloc_heap_new]
          simpa using hj
        case qc3 => intro u hu; simp [chC] at hu; rcases hu with rfl | rfl | rfl <;> rfl
        case qc4 => unfold maxLen; omega
        case qc5 => omega
        case qc6 => simp; omega
        intro v' w5 hown5 hgrow hnil
        have hge : ∀ j, v.ownBlock = some j → w.heap.size + 2 ≤ j := fun j hj => (hown.lt j hj).1
        have hne : some (w.heap.size + 1) ≠ v.ownBlock := fun e => by have := hge _ e.symm; omega
        have d0 := al_grown c0 hgrow hne
        have d1 := al_grown c1 hgrow hne
        have hown6 : w5.ownsRow (w.heap.size + 2) 89 3 v' (dfs B B2 (k + 1)).length (dfC B B2 (k + 1)) := by
          unfold dfC; rw [HE.out]; simpa [dfC] using hown5
        have hB5 : Below w.heap.size w w5 := (hB.alloc hB.size _).grown hgrow (by simp; omega) (fun j hj => by have := hge j hj; omega)
        have hz5 : w.heap.size + 2 ≤ w5.heap.size := by have := hgrow.size; simp at this; omega
        clear hown hown5 hgrow hnil hge hne c0 c1
        go_wp2_with fail
        exact ⟨⟨_, k + 1, rfl, hlt, by push_cast; rfl, d0, d1, hown6, hz5, hB5⟩, by show B.length - ((k : Int) + 1).toNat < B.length - (k : Int).toNat; omega⟩
    · have hge : k = B.length := by omega
      subst hge
      go_wp2_with fail
      go_ret2
      exact ⟨_, rfl, own_lowN (by omega) hown, hB⟩
end Go.Proofs.Ytnapbpfofpaakaa

namespace Go.Proofs.Ytnapbpfofpaakaa
open Go.RowKit Go.Shelf

/-- A region of a body, by its number. -/
def Code.findQ (k : Nat) : Code → Option Code
  | .region id ops b => if id = k then some (.region id ops b) else none
  | .seq a b => match Code.findQ k a with
    | some c => some c
    | none => Code.findQ k b
  | .cond _ a b => match Code.findQ k a with
    | some c => some c
    | none => Code.findQ k b
  | .block _ c => Code.findQ k c
  | .loop c => Code.findQ k c
  | .scope c => Code.findQ k c
  | _ => none

theorem own_of {w w' : World} {base base' : Nat} {e : TypeId} {v : Value} {n : Nat} {xs : List Value} (h : w.ownsRow base e 1 v n xs) (g : w.ownsRow base e 1 v n xs → w'.ownsRow base e 1 v n xs) (hb : base' ≤ base) : w'.ownsRow base' e 1 v n xs := ownsRow_mono hb (g h)
theorem own_al {w : World} {base : Nat} {e : TypeId} {v : Value} {n : Nat} {xs : List Value} (h : w.ownsRow base e 1 v n xs) (o : Obj) : (w.alloc o).ownsRow base e 1 v n xs := own_below h ((Below.refl _ _).alloc (Nat.le_refl _) _)
theorem own_mo {w : World} {base : Nat} {e : TypeId} {v : Value} {n : Nat} {xs : List Value} (h : w.ownsRow base e 1 v n xs) (os : Array Obj) (z : Nat) : (w.more os z).ownsRow base e 1 v n xs := own_below h (World.more_below _ _ _)
theorem own_mm {w : World} {base : Nat} {e : TypeId} {v : Value} {n : Nat} {xs : List Value} {os os' : Array Obj} {z' : Nat} (z : Nat) (h : (w.more os z).ownsRow base e 1 v n xs) : (w.more (os ++ os') z').ownsRow base e 1 v n xs := by
  rw [← World.more_more (n := z)]; exact own_mo h _ _
theorem own_setG {w : World} {base : Nat} {e : TypeId} {v : Value} {n : Nat} {xs : List Value} (h : w.ownsRow base e 1 v n xs) {b : Nat} (hb : ∀ g, v.ownBlock = some g → g ≠ b) (o : Nat) (u : Value) : (w.setCell ⟨b, o, none⟩ u).ownsRow base e 1 v n xs := by
  obtain ⟨h1, h2⟩ := h
  refine ⟨h1, ?_⟩
  rcases h2 with h2 | ⟨gg, cap, cur, hv, hbg, hg, h3⟩
  · exact .inl h2
  · exact .inr ⟨gg, cap, cur, hv, hbg, (Below.heap_setCell _ _ _ _ (hb gg (by rw [hv]; rfl))).trans hg, h3⟩

noncomputable def wperm_code : Code := ((Try.f49.body).bind (Code.findQ 1)).getD .skip
set_option maxRecDepth 100000 in
set_option maxHeartbeats 4000000 in
theorem wperm_r1 {Q : Exit → Act → World → Prop} {u0 u1 u2 u4 u5 u6 u7 u8 u9 u10 u11 u12 u13 u14 u15 u16 u17 u18 u19 u20 : Value} (P : List Int) (p : Option Addr) (pc : Nat) (B : List UInt8) (q : Option Addr) (qc : Nat) {W : World} {b : Nat} (hm : P.length ≤ 4096) (hB : B.length ≤ 4096) (hS : SpAt W P p B q qc)
    (hx : W.cell? ⟨b, 0, none⟩ = some (.slice p P.length pc)) (hy : W.cell? ⟨b, 1, none⟩ = some (.slice q B.length qc))
    (hQ : ∀ (v8 v9 v10 v11 v12 v13 v14 : Value) (X : Nat) (sq tq : Option Addr) (sc tc : Nat) (W' : World), Below W.heap.size W W' → W.heap.size ≤ X → W'.cell? ⟨X, 0, none⟩ = some (.slice sq P.length sc) → W'.cell? ⟨X, 1, none⟩ = some (.slice tq B.length tc) → W'.ownsRow W.heap.size 3 1 (.slice sq P.length sc) P.length (iV P) → W'.ownsRow W.heap.size 5 1 (.slice tq B.length tc) B.length (bV B) → (∀ g, (Value.slice sq P.length sc).ownBlock = some g → (Value.slice tq B.length tc).ownBlock ≠ some g) → Q .normal ⟨#[u0, u1, u2, .pointer (some ⟨b, 0, none⟩), u4, u5, u6, .pointer (some ⟨X, 0, none⟩), v8, v9, v10, v11, v12, v13, v14, u15, u16, u17, u18, u19, u20], []⟩ W') :
    wperm_code.wp Try.prog Q ⟨#[u0, u1, u2, .pointer (some ⟨b, 0, none⟩), u4, u5, u6, u7, u8, u9, u10, u11, u12, u13, u14, u15, u16, u17, u18, u19, u20], []⟩ W := by
  have HS := Lib.hid hS
  have zb := lt_of_cell hx
  have CI : ∀ W1, Below W.heap.size W W1 → Calls Try.prog 71 #[.slice p P.length pc] W1 fun e w' => ∃ v, e = .returned v ∧ w'.ownsRow W1.heap.size 3 1 v P.length (iV P) ∧ Below W1.heap.size W1 w' := fun W1 h => clone_ints P p pc W1 hm (HS.out.up h).perm
  have CB : ∀ W1, Below W.heap.size W W1 → Calls Try.prog 72 #[.slice q B.length qc] W1 fun e w' => ∃ v, e = .returned v ∧ w'.ownsRow W1.heap.size 5 1 v B.length (bV B) ∧ Below W1.heap.size W1 w' := fun W1 h => clone_bytes B q qc W1 hB (HS.out.up h).byte
  clear hS hm hB
  conv => arg 2; whnf
  go_region_held3 (fun W' => W'.cell? ⟨b, 0, none⟩ = some (.slice p P.length pc) ∧ W'.cell? ⟨b, 1, none⟩ = some (.slice q B.length qc)) (exact ⟨by go_simp, by go_simp⟩)
    (first | (go_at_call 71; (refine (CI _ (Gr.below (by repeat (first | (with_reducible exact Gr.refl _) | with_reducible refine Gr.alloc ?_ _ | with_reducible refine Gr.more ?_ _ _ | with_reducible refine Gr.setCell ?_ (by dsimp only; omega) _ | with_reducible refine Gr.drew ?_)))).mono ?_); rintro e w1 ⟨v, rfl, ho1, hb⟩; obtain ⟨sq, sc, rfl⟩ := own_sl ho1; obtain ⟨oi, zi, rfl⟩ := Below.moreE hb; clear hb; have hg1 := fun j e => (ho1.lt j e).1; have hl1 := fun j e => (ho1.lt j e).2; simp only [World.more_more, World.more_drew, Array.append_assoc, World.size_more, World.size_alloc, World.size_drew] at ho1 hl1 hg1) | (go_at_call 72; (refine (CB _ (Gr.below (by repeat (first | (with_reducible exact Gr.refl _) | with_reducible refine Gr.alloc ?_ _ | with_reducible refine Gr.more ?_ _ _ | with_reducible refine Gr.setCell ?_ (by dsimp only; omega) _ | with_reducible refine Gr.drew ?_)))).mono ?_); rintro e w1 ⟨v, rfl, ho2, hb⟩; obtain ⟨tq, tc, rfl⟩ := own_sl ho2; obtain ⟨ob, zb2, rfl⟩ := Below.moreE hb; clear hb; have hg2 := fun j e => (ho2.lt j e).1; have hl2 := fun j e => (ho2.lt j e).2; simp only [World.more_more, World.more_drew, Array.append_assoc, World.size_more, World.size_alloc, World.size_drew] at ho2 hl2 hg2))
  all_goals
    exact hQ _ _ _ _ _ _ _ _ sq tq sc tc _ (Gr.below (by repeat (first | (with_reducible exact Gr.refl _) | with_reducible refine Gr.alloc ?_ _ | with_reducible refine Gr.more ?_ _ _ | with_reducible refine Gr.setCell ?_ (by dsimp only; omega) _ | with_reducible refine Gr.drew ?_))) (by (try simp only [World.size_more, World.size_alloc, World.size_setCell, World.size_drew]); omega) (by go_simp) (by go_simp) (own_of ho1 (fun hh => by repeat (first | (with_reducible exact hh) | with_reducible refine own_mm zi ?_ | with_reducible refine own_al ?_ _ | with_reducible refine own_mo ?_ _ _ | with_reducible refine own_setN ?_ (by (try simp only [World.size_more, World.size_alloc, World.size_setCell, World.size_drew]); omega) _ _ | with_reducible refine own_setG ?_ (fun g hg => by have := hl1 g hg; (try simp only [World.size_more, World.size_alloc, World.size_setCell, World.size_drew]); omega) _ _)) (by (try simp only [World.size_more, World.size_alloc, World.size_setCell, World.size_drew]); omega)) (own_of ho2 (fun hh => by repeat (first | (with_reducible exact hh) | with_reducible refine own_al ?_ _ | with_reducible refine own_mo ?_ _ _ | with_reducible refine own_setN ?_ (by (try simp only [World.size_more, World.size_alloc, World.size_setCell, World.size_drew]); omega) _ _ | with_reducible refine own_setG ?_ (fun g hg => by have := hl2 g hg; (try simp only [World.size_more, World.size_alloc, World.size_setCell, World.size_drew]); omega) _ _)) (by (try simp only [World.size_more, World.size_alloc, World.size_setCell, World.size_drew]); omega)) (fun g h1 h2 => by have := hl1 g h1; have := hg2 g h2; (try simp only [Array.size_append] at *); omega)

theorem SeqFar.setNe {B : Nat} {W : World} {p : Option Addr} {xs : List Value} (h : SeqFar B W p xs) {a : Addr} (ha : ∀ b o, p = some ⟨b, o, none⟩ → b ≠ a.block) (u : Value) : SeqFar B (W.setCell a u) p xs := by
  rcases h with h | ⟨b, o, hp, hB, h⟩
  · exact .inl h
  · exact .inr ⟨b, o, hp, hB, fun j v hj => by rw [World.cell?_setCell_far _ _ _ _ (by have := ha b o hp; dsimp only; omega)]; exact h j v hj⟩
theorem SeqFar.lower {B B' : Nat} {W : World} {p : Option Addr} {xs : List Value} (h : SeqFar B W p xs) (hb : B' ≤ B) : SeqFar B' W p xs := by
  rcases h with h | ⟨b, o, e, h1, h2⟩
  · exact .inl h
  · exact .inr ⟨b, o, e, by omega, h2⟩
theorem row_set {w : World} {lo g c n : Nat} {t : TypeId} {P : List Int} {k : Nat} {x : Int} (h : w.ownsRow lo t 1 (.slice (some ⟨g, 0, none⟩) n c) n (iV P)) (hk : k < P.length) : SeqFar lo (w.setCell ⟨g, k, none⟩ (.int .i64 x)) (some ⟨g, 0, none⟩) (iV (P.set k x)) := by
  have hc := h.cells (g := g) rfl
  refine .inr ⟨g, 0, rfl, (h.lt g rfl).1, fun j v hj => ?_⟩
  rw [Nat.zero_add]
  have hjl : j < P.length := by
    have := (List.getElem?_eq_some_iff.1 hj).1
    simpa [iV] using this
  rw [iV_get _ j (by simpa using hjl)] at hj
  have hcj := hc j _ (iV_get P j hjl)
  rw [Addr.add_lit, Nat.zero_add] at hcj
  by_cases e : j = k
  · subst e
    simp at hj
    rw [← hj]
    exact World.cell?_setCell_same _ _ _ hcj
  · rw [World.cell?_setCell_other _ _ _ _ (by intro e2; injection e2 with _ e2; exact e e2.symm), hcj]
    simp [Ne.symm e] at hj
    rw [← hj]

set_option maxRecDepth 100000 in
set_option maxHeartbeats 2000000 in
theorem withPerm_any (P : List Int) (p : Option Addr) (pc : Nat) (B : List UInt8) (q : Option Addr) (qc : Nat) (k : Nat) (perm : Int) (w : World) (hS : SpAt w P p B q qc) (hm : P.length ≤ 32) (hBl : B.length = 64 * P.length) (hk : k < P.length) :
    Calls Try.prog 49 #[spV p P.length pc q B.length qc, .int .i64 (k : Int), .int .i64 perm] w fun e w' => ∃ sq sc tq tc, e = .returned (spV sq P.length sc tq B.length tc) ∧ SpFar w.heap.size w' (P.set k perm) sq B tq tc ∧ Below w.heap.size w w' := by
  have HS := Lib.hid hS
  have hB4 : B.length ≤ 4096 := by omega
  have hki : (0 : Int) ≤ (k : Int) := by omega
  have hki2 : (k : Int) < (P.length : Int) := by omega
  clear hS hBl
  go_enter Try.func49, Try.ntmps49
  go_upto_region 1 with fail
  refine wperm_r1 P p pc B q qc (b := w.heap.size) (by omega) hB4 (HS.out.up (Gr.below (by repeat (first | (with_reducible exact Gr.refl _) | with_reducible refine Gr.alloc ?_ _ | with_reducible refine Gr.more ?_ _ _ | with_reducible refine Gr.setCell ?_ (by dsimp only; omega) _ | with_reducible refine Gr.drew ?_)))) (by go_simp) (by go_simp) ?_
  intro v8 v9 v10 v11 v12 v13 v14 X sq tq sc tc W' hb hX c0 c1 ho1 ho2 hne
  have hPn : P.length ≠ 0 := by omega
  obtain ⟨g, cap, cur, hv, hbg, hgb, hcap⟩ := ho1.2.resolve_left (fun h => hPn h.2)
  injection hv with hsq _ hsc
  subst hsq; subst hsc
  have hcell := ho1.cells (g := g) rfl
  have ck := hcell k _ (iV_get P k hk)
  have c00 := hcell 0 _ (iV_get P 0 (by omega))
  rw [Addr.add_lit, Nat.zero_add] at ck c00
  have fk : W'.frozen? ⟨g, k, none⟩ = false := by simp [World.frozen?, hgb]
  have hXg : g ≠ X := by
    rintro rfl
    rw [c0] at c00
    cases c00
  have hz := hb.size
  simp only [World.size_alloc] at hz hX hbg
  have r0 : W'.cell? ⟨w.heap.size + 1, 0, none⟩ = some (.slice none 0 0) := by rw [hb.cell (by simp)]; go_simp
  have r1 : W'.cell? ⟨w.heap.size + 1, 1, none⟩ = some (.slice none 0 0) := by rw [hb.cell (by simp)]; go_simp
  have f0 : W'.frozen? ⟨w.heap.size + 1, 0, none⟩ = false := by rw [hb.frozen (by simp)]; go_simp
  have f1 : W'.frozen? ⟨w.heap.size + 1, 1, none⟩ = false := by rw [hb.frozen (by simp)]; go_simp
  have HR := Lib.hid (row_set (x := perm) ho1 hk)
  have HT := Lib.hid (SeqFar.own ho2)
  have HN := Lib.hid hne
  have HG := Lib.hid (lt_heap hgb)
  have hb0 : Below w.heap.size w W' := Below.trans (Gr.below (by repeat (first | (with_reducible exact Gr.refl _) | with_reducible refine Gr.alloc ?_ _ | with_reducible refine Gr.more ?_ _ _ | with_reducible refine Gr.setCell ?_ (by dsimp only; omega) _ | with_reducible refine Gr.drew ?_))) (hb.mono (by simp; omega))
  have HC := Lib.hid hcap
  clear hcell ho1 ho2 hne hgb c00 hb hcap
  have hgr : g ≠ w.heap.size + 1 := by omega
  go_wp2_with fail
  refine bodyPost_ret (v := spV (some ⟨g, 0, none⟩) P.length sc tq B.length tc) (by simp [results, Try.results49, go_sem, *]) rfl ⟨_, _, _, _, rfl, ?_, ?_⟩
  · refine ⟨((HR.out.set (by simp) _).set (by simp) _).lower (by simp; omega), ((((HT.out.1.setNe (fun b o e => ?_) _).set (by simp) _).set (by simp) _)).lower (by simp; omega), fun b o e => ?_, HT.out.2.1⟩
    · intro e2
      subst e
      exact HN.out g rfl (by rw [show g = b from e2.symm]; rfl)
    · injection e with e; injection e with e1
      subst e1
      simp only [World.size_setCell]; exact HG.out
  · exact ((hb0.setCell (by dsimp only; omega) _).setCell (by dsimp only; omega) _).setCell (by dsimp only; omega) _
end Go.Proofs.Ytnapbpfofpaakaa

namespace Go.Proofs.Ytnapbpfofpaakaa
open Go.RowKit Go.Shelf

theorem hpB_t {n k : Nat} (h : k < n) : hpB n (k : Int) = true := by simp [hpB]; omega

set_option maxHeartbeats 1000000 in
theorem seal_bad (P : List Int) (p : Option Addr) (pc : Nat) (q : Option Addr) (m qc : Nat) (k : Int) (w : World) (hP : SeqAt w p (iV P)) (hs : spB P m = false) :
    Calls Try.prog 17 #[spV p P.length pc q m qc, .int .i64 k] w fun e w' => e = .returned (.tuple #[spV none 0 0 none 0 0, .int .i64 30]) ∧ Below w.heap.size w w' := by
  have hC := fun w (hP : SeqAt w p (iV P)) => mcheck_any P p pc q m qc w hP
  rw [spE_bad hs] at hC
  go_enter Try.func17, Try.ntmps17
  go_wp2_with (go_at_call 21; (refine (hC _ (hP.up (Gr.below (by repeat (first | (with_reducible exact Gr.refl _) | with_reducible refine Gr.alloc ?_ _ | with_reducible refine Gr.more ?_ _ _ | with_reducible refine Gr.setCell ?_ (by dsimp only; omega) _ | with_reducible refine Gr.drew ?_))))).mono ?_); rintro e w1 ⟨rfl, hb⟩; obtain ⟨os, n, rfl⟩ := Below.moreE hb; clear hb)
  refine bodyPost_ret (v := .tuple #[spV none 0 0 none 0 0, .int .i64 30]) (by simp [results, Try.results17, go_sem, *]) rfl ⟨rfl, (Gr.below (by repeat (first | (with_reducible exact Gr.refl _) | with_reducible refine Gr.alloc ?_ _ | with_reducible refine Gr.more ?_ _ _ | with_reducible refine Gr.setCell ?_ (by dsimp only; omega) _ | with_reducible refine Gr.drew ?_)))⟩
set_option maxHeartbeats 1000000 in
theorem seal_page (P : List Int) (p : Option Addr) (pc : Nat) (q : Option Addr) (m qc : Nat) (k : Int) (w : World) (hP : SeqAt w p (iV P)) (hs : spB P m = true) (hk : hpB P.length k = false) :
    Calls Try.prog 17 #[spV p P.length pc q m qc, .int .i64 k] w fun e w' => e = .returned (.tuple #[spV none 0 0 none 0 0, .int .i64 31]) ∧ Below w.heap.size w w' := by
  have hC := fun w (hP : SeqAt w p (iV P)) => mcheck_any P p pc q m qc w hP
  rw [spE_ok hs] at hC
  have hH := fun w => hasPage_any p P.length pc q m qc k w
  rw [hk] at hH
  go_enter Try.func17, Try.ntmps17
  go_wp2_with first | (go_at_call 21; (refine (hC _ (hP.up (Gr.below (by repeat (first | (with_reducible exact Gr.refl _) | with_reducible refine Gr.alloc ?_ _ | with_reducible refine Gr.more ?_ _ _ | with_reducible refine Gr.setCell ?_ (by dsimp only; omega) _ | with_reducible refine Gr.drew ?_))))).mono ?_); rintro e w1 ⟨rfl, hb⟩; obtain ⟨os, n, rfl⟩ := Below.moreE hb; clear hb) | (go_at_call 47; (refine (hH _).mono ?_); rintro e w1 ⟨rfl, hb⟩; obtain ⟨os, n, rfl⟩ := Below.moreE hb; clear hb)
  refine bodyPost_ret (v := .tuple #[spV none 0 0 none 0 0, .int .i64 31]) (by simp [results, Try.results17, go_sem, *]) rfl ⟨rfl, (Gr.below (by repeat (first | (with_reducible exact Gr.refl _) | with_reducible refine Gr.alloc ?_ _ | with_reducible refine Gr.more ?_ _ _ | with_reducible refine Gr.setCell ?_ (by dsimp only; omega) _ | with_reducible refine Gr.drew ?_)))⟩
set_option maxHeartbeats 1000000 in
theorem seal_ok (P : List Int) (p : Option Addr) (pc : Nat) (B : List UInt8) (q : Option Addr) (qc : Nat) (k : Nat) (w : World) (hS : SpAt w P p B q qc) (hs : spB P B.length = true) (hk : k < P.length) :
    Calls Try.prog 17 #[spV p P.length pc q B.length qc, .int .i64 (k : Int)] w fun e w' => ∃ sq sc tq tc, e = .returned (.tuple #[spV sq P.length sc tq B.length tc, .int .i64 0]) ∧ SpFar w.heap.size w' (P.set k 4) sq B tq tc ∧ Below w.heap.size w w' := by
  have hC := fun w (hP : SeqAt w p (iV P)) => mcheck_any P p pc q B.length qc w hP
  rw [spE_ok hs] at hC
  have hH := fun w => hasPage_any p P.length pc q B.length qc (k : Int) w
  rw [hpB_t hk] at hH
  have W := fun w (hS : SpAt w P p B q qc) => withPerm_any P p pc B q qc k 4 w hS (spB_len hs).1 (spB_len hs).2 hk
  have HS := Lib.hid hS
  clear hS hs hk
  go_enter Try.func17, Try.ntmps17
  go_wp2_with first | (go_at_call 21; (refine (hC _ (HS.out.up (Gr.below (by repeat (first | (with_reducible exact Gr.refl _) | with_reducible refine Gr.alloc ?_ _ | with_reducible refine Gr.more ?_ _ _ | with_reducible refine Gr.setCell ?_ (by dsimp only; omega) _ | with_reducible refine Gr.drew ?_)))).perm).mono ?_); rintro e w1 ⟨rfl, hb⟩; obtain ⟨os, n, rfl⟩ := Below.moreE hb; clear hb) | (go_at_call 47; (refine (hH _).mono ?_); rintro e w1 ⟨rfl, hb⟩; obtain ⟨os, n, rfl⟩ := Below.moreE hb; clear hb) | (go_at_call 49; (refine (W _ (HS.out.up (Gr.below (by repeat (first | (with_reducible exact Gr.refl _) | with_reducible refine Gr.alloc ?_ _ | with_reducible refine Gr.more ?_ _ _ | with_reducible refine Gr.setCell ?_ (by dsimp only; omega) _ | with_reducible refine Gr.drew ?_))))).mono ?_); rintro e w1 ⟨sq, sc, tq, tc, rfl, hv, hb⟩; obtain ⟨oz, zz, rfl⟩ := Below.moreE hb; clear hb; simp only [World.more_more, Array.append_assoc] at hv)
  refine bodyPost_ret (v := .tuple #[spV sq P.length sc tq B.length tc, .int .i64 0]) (by simp [results, Try.results17, go_sem, *]) rfl ⟨sq, sc, tq, tc, rfl, hv.of (fun hv => by repeat (first | (with_reducible exact hv) | with_reducible refine SpFar.alloc ?_ _ | with_reducible refine SpFar.more ?_ _ _ | with_reducible refine SpFar.set ?_ (by dsimp only; (try simp only [World.size_more, World.size_alloc, World.size_setCell, World.size_drew]); omega) _ | with_reducible refine SpFar.drew ?_)) (by (try simp only [World.size_more, World.size_alloc, World.size_setCell, World.size_drew]); omega), (Gr.below (by repeat (first | (with_reducible exact Gr.refl _) | with_reducible refine Gr.alloc ?_ _ | with_reducible refine Gr.more ?_ _ _ | with_reducible refine Gr.setCell ?_ (by dsimp only; omega) _ | with_reducible refine Gr.drew ?_)))⟩

set_option maxHeartbeats 1000000 in
theorem protect_bad (P : List Int) (p : Option Addr) (pc : Nat) (q : Option Addr) (m qc : Nat) (k perm : Int) (w : World) (hP : SeqAt w p (iV P)) (hs : spB P m = false) :
    Calls Try.prog 16 #[spV p P.length pc q m qc, .int .i64 k, .int .i64 perm] w fun e w' => e = .returned (.tuple #[spV none 0 0 none 0 0, .int .i64 30]) ∧ Below w.heap.size w w' := by
  have hC := fun w (hP : SeqAt w p (iV P)) => mcheck_any P p pc q m qc w hP
  rw [spE_bad hs] at hC
  go_enter Try.func16, Try.ntmps16
  go_wp2_with (go_at_call 21; (refine (hC _ (hP.up (Gr.below (by repeat (first | (with_reducible exact Gr.refl _) | with_reducible refine Gr.alloc ?_ _ | with_reducible refine Gr.more ?_ _ _ | with_reducible refine Gr.setCell ?_ (by dsimp only; omega) _ | with_reducible refine Gr.drew ?_))))).mono ?_); rintro e w1 ⟨rfl, hb⟩; obtain ⟨os, n, rfl⟩ := Below.moreE hb; clear hb)
  refine bodyPost_ret (v := .tuple #[spV none 0 0 none 0 0, .int .i64 30]) (by simp [results, Try.results16, go_sem, *]) rfl ⟨rfl, (Gr.below (by repeat (first | (with_reducible exact Gr.refl _) | with_reducible refine Gr.alloc ?_ _ | with_reducible refine Gr.more ?_ _ _ | with_reducible refine Gr.setCell ?_ (by dsimp only; omega) _ | with_reducible refine Gr.drew ?_)))⟩
set_option maxHeartbeats 1000000 in
theorem protect_page (P : List Int) (p : Option Addr) (pc : Nat) (q : Option Addr) (m qc : Nat) (k perm : Int) (w : World) (hP : SeqAt w p (iV P)) (hs : spB P m = true) (hk : hpB P.length k = false) :
    Calls Try.prog 16 #[spV p P.length pc q m qc, .int .i64 k, .int .i64 perm] w fun e w' => e = .returned (.tuple #[spV none 0 0 none 0 0, .int .i64 31]) ∧ Below w.heap.size w w' := by
  have hC := fun w (hP : SeqAt w p (iV P)) => mcheck_any P p pc q m qc w hP
  rw [spE_ok hs] at hC
  have hH := fun w => hasPage_any p P.length pc q m qc k w
  rw [hk] at hH
  go_enter Try.func16, Try.ntmps16
  go_wp2_with first | (go_at_call 21; (refine (hC _ (hP.up (Gr.below (by repeat (first | (with_reducible exact Gr.refl _) | with_reducible refine Gr.alloc ?_ _ | with_reducible refine Gr.more ?_ _ _ | with_reducible refine Gr.setCell ?_ (by dsimp only; omega) _ | with_reducible refine Gr.drew ?_))))).mono ?_); rintro e w1 ⟨rfl, hb⟩; obtain ⟨os, n, rfl⟩ := Below.moreE hb; clear hb) | (go_at_call 47; (refine (hH _).mono ?_); rintro e w1 ⟨rfl, hb⟩; obtain ⟨os, n, rfl⟩ := Below.moreE hb; clear hb)
  refine bodyPost_ret (v := .tuple #[spV none 0 0 none 0 0, .int .i64 31]) (by simp [results, Try.results16, go_sem, *]) rfl ⟨rfl, (Gr.below (by repeat (first | (with_reducible exact Gr.refl _) | with_reducible refine Gr.alloc ?_ _ | with_reducible refine Gr.more ?_ _ _ | with_reducible refine Gr.setCell ?_ (by dsimp only; omega) _ | with_reducible refine Gr.drew ?_)))⟩
set_option maxHeartbeats 2000000 in
theorem protect_perm (P : List Int) (p : Option Addr) (pc : Nat) (q : Option Addr) (m qc : Nat) (k : Nat) (perm : Int) (w : World) (hP : SeqAt w p (iV P)) (hs : spB P m = true) (hk : k < P.length) (h4 : P[k] = 4 ∨ dpB perm = false) :
    Calls Try.prog 16 #[spV p P.length pc q m qc, .int .i64 (k : Int), .int .i64 perm] w fun e w' => e = .returned (.tuple #[spV none 0 0 none 0 0, .int .i64 31]) ∧ Below w.heap.size w w' := by
  have hC := fun w (hP : SeqAt w p (iV P)) => mcheck_any P p pc q m qc w hP
  rw [spE_ok hs] at hC
  have hH := fun w => hasPage_any p P.length pc q m qc (k : Int) w
  rw [hpB_t hk] at hH
  have HP := Lib.hid hP
  have hki : (0 : Int) ≤ (k : Int) := by omega
  have hki2 : (k : Int) < (P.length : Int) := by omega
  rcases hP with hn | ⟨b, o, rfl, hc⟩
  · have : P.length = 0 := by simpa [iV] using hn
    omega
  · have hck := hc k _ (iV_get P k hk)
    have hbz := lt_of_cell hck
    clear hc
    by_cases e4 : P[k] = 4
    · have e4' : (P[k] == 4) = true := by simp [e4]
      clear h4 e4 hs
      go_enter Try.func16, Try.ntmps16
      go_wp2_with first | (go_at_call 21; (refine (hC _ (HP.out.up (Gr.below (by repeat (first | (with_reducible exact Gr.refl _) | with_reducible refine Gr.alloc ?_ _ | with_reducible refine Gr.more ?_ _ _ | with_reducible refine Gr.setCell ?_ (by dsimp only; omega) _ | with_reducible refine Gr.drew ?_))))).mono ?_); rintro e w1 ⟨rfl, hb⟩; obtain ⟨os, n, rfl⟩ := Below.moreE hb; clear hb) | (go_at_call 47; (refine (hH _).mono ?_); rintro e w1 ⟨rfl, hb⟩; obtain ⟨os, n, rfl⟩ := Below.moreE hb; clear hb)
      refine bodyPost_ret (v := .tuple #[spV none 0 0 none 0 0, .int .i64 31]) (by simp [results, Try.results16, go_sem, *]) rfl ⟨rfl, (Gr.below (by repeat (first | (with_reducible exact Gr.refl _) | with_reducible refine Gr.alloc ?_ _ | with_reducible refine Gr.more ?_ _ _ | with_reducible refine Gr.setCell ?_ (by dsimp only; omega) _ | with_reducible refine Gr.drew ?_)))⟩
    · have e4' : (P[k] == 4) = false := beq_eq_false_iff_ne.2 e4
      have hD := fun w => dataPerm_f (h4.resolve_left e4) w
      clear h4 e4 hs
      go_enter Try.func16, Try.ntmps16
      go_wp2_with first | (go_at_call 21; (refine (hC _ (HP.out.up (Gr.below (by repeat (first | (with_reducible exact Gr.refl _) | with_reducible refine Gr.alloc ?_ _ | with_reducible refine Gr.more ?_ _ _ | with_reducible refine Gr.setCell ?_ (by dsimp only; omega) _ | with_reducible refine Gr.drew ?_))))).mono ?_); rintro e w1 ⟨rfl, hb⟩; obtain ⟨os, n, rfl⟩ := Below.moreE hb; clear hb) | (go_at_call 47; (refine (hH _).mono ?_); rintro e w1 ⟨rfl, hb⟩; obtain ⟨os, n, rfl⟩ := Below.moreE hb; clear hb) | (go_at_call 48; (refine (hD _).mono ?_); rintro e w1 ⟨rfl, rfl⟩)
      refine bodyPost_ret (v := .tuple #[spV none 0 0 none 0 0, .int .i64 31]) (by simp [results, Try.results16, go_sem, *]) rfl ⟨rfl, (Gr.below (by repeat (first | (with_reducible exact Gr.refl _) | with_reducible refine Gr.alloc ?_ _ | with_reducible refine Gr.more ?_ _ _ | with_reducible refine Gr.setCell ?_ (by dsimp only; omega) _ | with_reducible refine Gr.drew ?_)))⟩
set_option maxHeartbeats 2000000 in
theorem protect_ok (P : List Int) (p : Option Addr) (pc : Nat) (B : List UInt8) (q : Option Addr) (qc : Nat) (k : Nat) (perm : Int) (w : World) (hS : SpAt w P p B q qc) (hs : spB P B.length = true) (hk : k < P.length) (h4 : P[k] ≠ 4) (hd : dpB perm = true) :
    Calls Try.prog 16 #[spV p P.length pc q B.length qc, .int .i64 (k : Int), .int .i64 perm] w fun e w' => ∃ sq sc tq tc, e = .returned (.tuple #[spV sq P.length sc tq B.length tc, .int .i64 0]) ∧ SpFar w.heap.size w' (P.set k perm) sq B tq tc ∧ Below w.heap.size w w' := by
  have hC := fun w (hP : SeqAt w p (iV P)) => mcheck_any P p pc q B.length qc w hP
  rw [spE_ok hs] at hC
  have hH := fun w => hasPage_any p P.length pc q B.length qc (k : Int) w
  rw [hpB_t hk] at hH
  have W := fun w (hS : SpAt w P p B q qc) => withPerm_any P p pc B q qc k perm w hS (spB_len hs).1 (spB_len hs).2 hk
  have hD := fun w => dataPerm_t hd w
  have HS := Lib.hid hS
  have hki : (0 : Int) ≤ (k : Int) := by omega
  have hki2 : (k : Int) < (P.length : Int) := by omega
  have e4' : (P[k] == 4) = false := beq_eq_false_iff_ne.2 h4
  rcases hS.perm with hn | ⟨b, o, rfl, hc⟩
  · have : P.length = 0 := by simpa [iV] using hn
    omega
  · have hck := hc k _ (iV_get P k hk)
    have hbz := lt_of_cell hck
    clear hc hS hs h4 hd
    go_enter Try.func16, Try.ntmps16
    go_wp2_with first | (go_at_call 21; (refine (hC _ (HS.out.up (Gr.below (by repeat (first | (with_reducible exact Gr.refl _) | with_reducible refine Gr.alloc ?_ _ | with_reducible refine Gr.more ?_ _ _ | with_reducible refine Gr.setCell ?_ (by dsimp only; omega) _ | with_reducible refine Gr.drew ?_)))).perm).mono ?_); rintro e w1 ⟨rfl, hb⟩; obtain ⟨os, n, rfl⟩ := Below.moreE hb; clear hb) | (go_at_call 47; (refine (hH _).mono ?_); rintro e w1 ⟨rfl, hb⟩; obtain ⟨os, n, rfl⟩ := Below.moreE hb; clear hb) | (go_at_call 48; (refine (hD _).mono ?_); rintro e w1 ⟨rfl, rfl⟩) | (go_at_call 49; (refine (W _ (HS.out.up (Gr.below (by repeat (first | (with_reducible exact Gr.refl _) | with_reducible refine Gr.alloc ?_ _ | with_reducible refine Gr.more ?_ _ _ | with_reducible refine Gr.setCell ?_ (by dsimp only; omega) _ | with_reducible refine Gr.drew ?_))))).mono ?_); rintro e w1 ⟨sq, sc, tq, tc, rfl, hv, hb⟩; obtain ⟨oz, zz, rfl⟩ := Below.moreE hb; clear hb; simp only [World.more_more, Array.append_assoc] at hv)
    refine bodyPost_ret (v := .tuple #[spV sq P.length sc tq B.length tc, .int .i64 0]) (by simp [results, Try.results16, go_sem, *]) rfl ⟨sq, sc, tq, tc, rfl, hv.of (fun hv => by repeat (first | (with_reducible exact hv) | with_reducible refine SpFar.alloc ?_ _ | with_reducible refine SpFar.more ?_ _ _ | with_reducible refine SpFar.set ?_ (by dsimp only; (try simp only [World.size_more, World.size_alloc, World.size_setCell, World.size_drew]); omega) _ | with_reducible refine SpFar.drew ?_)) (by (try simp only [World.size_more, World.size_alloc, World.size_setCell, World.size_drew]); omega), (Gr.below (by repeat (first | (with_reducible exact Gr.refl _) | with_reducible refine Gr.alloc ?_ _ | with_reducible refine Gr.more ?_ _ _ | with_reducible refine Gr.setCell ?_ (by dsimp only; omega) _ | with_reducible refine Gr.drew ?_)))⟩
end Go.Proofs.Ytnapbpfofpaakaa

namespace Go.Proofs.Ytnapbpfofpaakaa
open Go.RowKit Go.Shelf

theorem new_bad (n : Int) (w : World) (hn : n < 0 ∨ 32 < n) :
    Calls Try.prog 15 #[.int .i64 n] w fun e w' => e = .returned (.tuple #[spV none 0 0 none 0 0, .int .i64 1]) ∧ Below w.heap.size w w' := by
  by_cases h0 : n < 0
  · clear hn
    go_enter Try.func15, Try.ntmps15
    go_wp2
    refine bodyPost_ret (v := .tuple #[spV none 0 0 none 0 0, .int .i64 1]) (by simp [results, Try.results15, go_sem, *]) rfl ⟨rfl, (Gr.below (by repeat (first | (with_reducible exact Gr.refl _) | with_reducible refine Gr.alloc ?_ _ | with_reducible refine Gr.more ?_ _ _ | with_reducible refine Gr.setCell ?_ (by dsimp only; omega) _ | with_reducible refine Gr.drew ?_)))⟩
  · have h1 : 32 < n := hn.resolve_left h0
    clear hn
    go_enter Try.func15, Try.ntmps15
    go_wp2
    refine bodyPost_ret (v := .tuple #[spV none 0 0 none 0 0, .int .i64 1]) (by simp [results, Try.results15, go_sem, *]) rfl ⟨rfl, (Gr.below (by repeat (first | (with_reducible exact Gr.refl _) | with_reducible refine Gr.alloc ?_ _ | with_reducible refine Gr.more ?_ _ _ | with_reducible refine Gr.setCell ?_ (by dsimp only; omega) _ | with_reducible refine Gr.drew ?_)))⟩
theorem made_far {W : World} (z : Value) (n : Nat) (t : TypeId) (lo g : Nat) (hg : g = W.heap.size) (h : lo ≤ g) : SeqFar lo (W.alloc (.cells (madeCells #[z] n) t)) (some ⟨g, 0, none⟩) (List.replicate n z) := by
  subst hg
  refine .inr ⟨_, 0, rfl, h, fun j v hj => ?_⟩
  have hb := World.alloc_heap_new W (.cells (madeCells #[z] n) t)
  unfold World.cell?
  rw [hb, Nat.zero_add]
  have : (madeCells #[z] n)[j]? = (madeCells #[z] n).toList[j]? := by simp
  simp only [this, toList_madeCells_one]
  exact hj

set_option maxRecDepth 100000 in
set_option maxHeartbeats 1000000 in
theorem new_ok (n : Nat) (w : World) (hn : n ≤ 32) :
    Calls Try.prog 15 #[.int .i64 (n : Int)] w fun e w' => ∃ sq tq, e = .returned (.tuple #[spV sq n n tq (64 * n) (64 * n), .int .i64 0]) ∧ SpFar w.heap.size w' (List.replicate n 0) sq (List.replicate (64 * n) 0) tq (64 * n) ∧ Below w.heap.size w w' := by
  have h0 : ¬ (n : Int) < 0 := by omega
  have h1 : ¬ (32 : Int) < (n : Int) := by omega
  have h2 : IntKind.i64.wrap ((n : Int) * 64) = (n : Int) * 64 := by rw [IntKind.wrap_i64]; omega
  have M1 : ∀ W : World, (Instr.makeSlice 22 (.int .i64 (n : Int)) (.int .i64 (n : Int))).run Try.prog W = .ok (.slice (some ⟨W.heap.size, 0, none⟩) n n) (W.alloc (.cells (madeCells #[.int .i64 0] n) 3)) := fun W => run_make_row' 22 3 _ 8 Try.underlying22 A_infoI rfl .i64 .i64 n (by omega) (by omega) W
  have M2 : ∀ W : World, (Instr.makeSlice 23 (.int .i64 ((n : Int) * 64)) (.int .i64 ((n : Int) * 64))).run Try.prog W = .ok (.slice (some ⟨W.heap.size, 0, none⟩) (64 * n) (64 * n)) (W.alloc (.cells (madeCells #[.int .u8 0] (64 * n)) 5)) := fun W => by
    have := run_make_row' 23 5 _ 1 Try.underlying23 A_infoB rfl .i64 .i64 (64 * n) (by omega) (by omega) W
    rw [show ((64 * n : Nat) : Int) = (n : Int) * 64 by push_cast; omega] at this
    exact this
  go_enter Try.func15, Try.ntmps15
  go_wp2
  go_region_held3 (fun w' => w.heap.size ≤ w'.heap.size) (first | omega | (simp; done) | (simp; omega)) (fail)
  all_goals go_wp2
  · refine bodyPost_ret (v := .tuple #[spV (some ⟨w.heap.size + 1, 0, none⟩) n n (some ⟨w.heap.size + 1 + 1, 0, none⟩) (64 * n) (64 * n), .int .i64 0]) (by simp [results, Try.results15, go_sem, *]) rfl ⟨_, _, rfl, ⟨?_, ?_, fun b o e => ?_, by simp⟩, (Gr.below (by repeat (first | (with_reducible exact Gr.refl _) | with_reducible refine Gr.alloc ?_ _ | with_reducible refine Gr.more ?_ _ _ | with_reducible refine Gr.setCell ?_ (by dsimp only; omega) _ | with_reducible refine Gr.drew ?_)))⟩
    · have := made_far (W := w.alloc (.cells #[.slice (some ⟨w.heap.size + 1, 0, none⟩) n n, .slice (some ⟨w.heap.size + 1 + 1, 0, none⟩) (64 * n) (64 * n)] 25)) (.int .i64 0) n 3 w.heap.size (w.heap.size + 1) (by simp) (by omega)
      rw [show iV (List.replicate n 0) = List.replicate n (.int .i64 0) by simp [iV]]
      exact this.alloc _
    · rw [show bV (List.replicate (64 * n) 0) = List.replicate (64 * n) (.int .u8 0) by simp [bV]]
      exact made_far (W := (w.alloc (.cells #[.slice (some ⟨w.heap.size + 1, 0, none⟩) n n, .slice (some ⟨w.heap.size + 1 + 1, 0, none⟩) (64 * n) (64 * n)] 25)).alloc (.cells (madeCells #[.int .i64 0] n) 3)) (.int .u8 0) (64 * n) 5 w.heap.size (w.heap.size + 1 + 1) (by simp) (by omega)
    · injection e with e; injection e with e1
      subst e1; simp
  · refine bodyPost_ret (v := .tuple #[spV (some ⟨w.heap.size + 1 + 1, 0, none⟩) n n (some ⟨w.heap.size + 1, 0, none⟩) (64 * n) (64 * n), .int .i64 0]) (by simp [results, Try.results15, go_sem, *]) rfl ⟨_, _, rfl, ⟨?_, ?_, fun b o e => ?_, by simp⟩, (Gr.below (by repeat (first | (with_reducible exact Gr.refl _) | with_reducible refine Gr.alloc ?_ _ | with_reducible refine Gr.more ?_ _ _ | with_reducible refine Gr.setCell ?_ (by dsimp only; omega) _ | with_reducible refine Gr.drew ?_)))⟩
    · rw [show iV (List.replicate n 0) = List.replicate n (.int .i64 0) by simp [iV]]
      exact made_far (W := (w.alloc (.cells #[.slice (some ⟨w.heap.size + 1 + 1, 0, none⟩) n n, .slice (some ⟨w.heap.size + 1, 0, none⟩) (64 * n) (64 * n)] 25)).alloc (.cells (madeCells #[.int .u8 0] (64 * n)) 5)) (.int .i64 0) n 3 w.heap.size (w.heap.size + 1 + 1) (by simp) (by omega)
    · have := made_far (W := w.alloc (.cells #[.slice (some ⟨w.heap.size + 1 + 1, 0, none⟩) n n, .slice (some ⟨w.heap.size + 1, 0, none⟩) (64 * n) (64 * n)] 25)) (.int .u8 0) (64 * n) 5 w.heap.size (w.heap.size + 1) (by simp) (by omega)
      rw [show bV (List.replicate (64 * n) 0) = List.replicate (64 * n) (.int .u8 0) by simp [bV]]
      exact this.alloc _
    · injection e with e; injection e with e1
      subst e1; simp
end Go.Proofs.Ytnapbpfofpaakaa

namespace Go.Proofs.Ytnapbpfofpaakaa
open Go.RowKit

theorem SeqFar.lowerF {B B' : Nat} {W : World} {p : Option Addr} {xs : List Value} (h : SeqFar B W p xs) (hb : B' ≤ B) : SeqFar B' W p xs := by
  rcases h with h | ⟨b, o, hp, h1, h⟩
  · exact .inl h
  · exact .inr ⟨b, o, hp, by omega, h⟩
theorem SeqFar.ofF {B B' : Nat} {W W' : World} {p : Option Addr} {xs : List Value} (h : SeqFar B W p xs) (g : SeqFar B W p xs → SeqFar B W' p xs) (hb : B' ≤ B) : SeqFar B' W' p xs := (g h).lowerF hb

set_option maxHeartbeats 1000000 in
theorem fetch_bad (P : List Int) (p : Option Addr) (pc : Nat) (q : Option Addr) (m qc : Nat) (at0 n : Int) (w : World) (hP : SeqAt w p (iV P)) (hs : spB P m = false) :
    Calls Try.prog 26 #[spV p P.length pc q m qc, .int .i64 at0, .int .i64 n] w fun e w' => e = .returned (.tuple #[.slice none 0 0, .int .i64 30]) ∧ Below w.heap.size w w' := by
  go_enter Try.func26, Try.ntmps26
  go_wp2_with (go_at_call 55; (refine (checkLength_bad P p pc q m qc _ _ _ (hP.up (Gr.below (by repeat (first | (with_reducible exact Gr.refl _) | with_reducible refine Gr.alloc ?_ _ | with_reducible refine Gr.more ?_ _ _ | with_reducible refine Gr.setCell ?_ (by dsimp only; omega) _ | with_reducible refine Gr.drew ?_)))) hs).mono ?_); rintro e w1 ⟨rfl, hb⟩; obtain ⟨os, n, rfl⟩ := Below.moreE hb; clear hb)
  go_ret2
  exact ⟨rfl, (Gr.below (by repeat (first | (with_reducible exact Gr.refl _) | with_reducible refine Gr.alloc ?_ _ | with_reducible refine Gr.more ?_ _ _ | with_reducible refine Gr.setCell ?_ (by dsimp only; omega) _ | with_reducible refine Gr.drew ?_)))⟩
set_option maxHeartbeats 1000000 in
theorem fetch_arg (P : List Int) (p : Option Addr) (pc : Nat) (q : Option Addr) (m qc : Nat) (at0 n : Int) (w : World) (hP : SeqAt w p (iV P)) (hs : spB P m = true) (hn : n < 0 ∨ 2048 < n) :
    Calls Try.prog 26 #[spV p P.length pc q m qc, .int .i64 at0, .int .i64 n] w fun e w' => e = .returned (.tuple #[.slice none 0 0, .int .i64 1]) ∧ Below w.heap.size w w' := by
  go_enter Try.func26, Try.ntmps26
  go_wp2_with (go_at_call 55; (refine (checkLength_arg P p pc q m qc _ _ _ (hP.up (Gr.below (by repeat (first | (with_reducible exact Gr.refl _) | with_reducible refine Gr.alloc ?_ _ | with_reducible refine Gr.more ?_ _ _ | with_reducible refine Gr.setCell ?_ (by dsimp only; omega) _ | with_reducible refine Gr.drew ?_)))) hs hn).mono ?_); rintro e w1 ⟨rfl, hb⟩; obtain ⟨os, n, rfl⟩ := Below.moreE hb; clear hb)
  go_ret2
  exact ⟨rfl, (Gr.below (by repeat (first | (with_reducible exact Gr.refl _) | with_reducible refine Gr.alloc ?_ _ | with_reducible refine Gr.more ?_ _ _ | with_reducible refine Gr.setCell ?_ (by dsimp only; omega) _ | with_reducible refine Gr.drew ?_)))⟩
set_option maxHeartbeats 2000000 in
theorem fetch_ok (P : List Int) (p : Option Addr) (pc : Nat) (B : List UInt8) (q : Option Addr) (qc : Nat) (at0 : Int) (nn : Nat) (w : World) (hS : SpAt w P p B q qc) (hs : spB P B.length = true) (hn : nn ≤ 2048) :
    Calls Try.prog 26 #[spV p P.length pc q B.length qc, .int .i64 at0, .int .i64 (nn : Int)] w fun e w' => ∃ vp vc, e = .returned (.tuple #[.slice vp (goodA P 4 at0 nn) vc, .int .i64 0]) ∧ SeqFar w.heap.size w' vp (bV (rdL B at0 (goodA P 4 at0 nn))) ∧ Below w.heap.size w w' := by
  have h0 : ¬ (nn : Int) < 0 := by omega
  have h1 : ¬ (2048 : Int) < (nn : Int) := by omega
  have HL := Lib.hid (spB_len hs)
  have HO : Hid (nn ≤ 2048) := Lib.hid (by omega)
  have HS := Lib.hid hS
  clear hn
  have R : ∀ W, Below w.heap.size w W → Calls Try.prog 56 #[spV p P.length pc q B.length qc] W fun e w' => ∃ q2 c PB, e = .returned (spV p P.length pc q2 P.length c) ∧ (q2 = some ⟨PB, 0, none⟩ ∨ P = []) ∧ SeqAt w' (some ⟨PB, 0, none⟩) (bV B) ∧ PB < w'.heap.size ∧ Below W.heap.size W w' := fun W hW => memoryOf_r P p pc B q qc W HL.out.1 HL.out.2 (hS.up hW)
  have R2 : ∀ q2 c2 PB perm W, Below w.heap.size w W → (q2 = some ⟨PB, 0, none⟩ ∨ P = []) → SeqAt W (some ⟨PB, 0, none⟩) (bV B) → PB < W.heap.size → Calls Try.prog 57 #[spV p P.length pc q2 P.length c2, .int .i64 at0, .int .i64 (nn : Int), .int .i64 perm] W fun e w' => ∃ vp vc, e = .returned (.tuple #[.slice vp (goodA P perm at0 nn) vc, ftV (fltK P perm at0 nn) (fltA P perm at0 nn)]) ∧
      SeqFar W.heap.size w' vp (bV (rdL B at0 (goodA P perm at0 nn))) ∧ Below W.heap.size W w' := fun q2 c2 PB perm W hW h1 h2 h3 => rd_r P p pc B q2 c2 PB at0 nn perm W HL.out HO.out (HS.out.up hW).perm (HS.out.up hW).old h1 h2 h3
  go_enter Try.func26, Try.ntmps26
  go_wp2_with first | (go_at_call 55; (refine (checkLength_ok P p pc q B.length qc _ _ _ (hS.perm.up (Gr.below (by repeat (first | (with_reducible exact Gr.refl _) | with_reducible refine Gr.alloc ?_ _ | with_reducible refine Gr.more ?_ _ _ | with_reducible refine Gr.setCell ?_ (by dsimp only; omega) _ | with_reducible refine Gr.drew ?_)))) hs h0 h1).mono ?_); rintro e w1 ⟨rfl, hb⟩; obtain ⟨oc, zc, rfl⟩ := Below.moreE hb; clear hb) | (go_at_call 56; (refine (R _ (Gr.below (by repeat (first | (with_reducible exact Gr.refl _) | with_reducible refine Gr.alloc ?_ _ | with_reducible refine Gr.more ?_ _ _ | with_reducible refine Gr.setCell ?_ (by dsimp only; omega) _ | with_reducible refine Gr.drew ?_)))).mono ?_); rintro e w1 ⟨q2, c2, PB, rfl, hq2, hs2, hlt2, hb⟩; obtain ⟨om, zm, rfl⟩ := Below.moreE hb; clear hb; simp only [World.more_more, Array.append_assoc] at hs2 hlt2) | (go_at_call 57; (refine (R2 _ _ _ _ _ (Gr.below (by repeat (first | (with_reducible exact Gr.refl _) | with_reducible refine Gr.alloc ?_ _ | with_reducible refine Gr.more ?_ _ _ | with_reducible refine Gr.setCell ?_ (by dsimp only; omega) _ | with_reducible refine Gr.drew ?_))) hq2 hs2 hlt2).mono ?_); rintro e w1 ⟨vp, vc, rfl, hv, hb⟩; obtain ⟨od, zd, rfl⟩ := Below.moreE hb; clear hb; simp only [World.more_more, Array.append_assoc] at hv)
  go_ret2
  refine ⟨vp, vc, rfl, hv.ofF (fun hv => by repeat (first | (with_reducible exact hv) | with_reducible refine SeqFar.alloc ?_ _ | with_reducible refine SeqFar.more ?_ _ _ | with_reducible refine SeqFar.set ?_ (by dsimp only; (try simp only [World.size_more, World.size_alloc, World.size_setCell, World.size_drew]); omega) _ | with_reducible refine SeqFar.drew ?_)) (by (try simp only [World.size_more, World.size_alloc, World.size_setCell, World.size_drew]); omega), (Gr.below (by repeat (first | (with_reducible exact Gr.refl _) | with_reducible refine Gr.alloc ?_ _ | with_reducible refine Gr.more ?_ _ _ | with_reducible refine Gr.setCell ?_ (by dsimp only; omega) _ | with_reducible refine Gr.drew ?_)))⟩
set_option maxHeartbeats 1000000 in
theorem peek_bad (P : List Int) (p : Option Addr) (pc : Nat) (q : Option Addr) (m qc : Nat) (at0 n : Int) (w : World) (hP : SeqAt w p (iV P)) (hs : spB P m = false) :
    Calls Try.prog 27 #[spV p P.length pc q m qc, .int .i64 at0, .int .i64 n] w fun e w' => e = .returned (.tuple #[.slice none 0 0, ftV 0 0, .int .i64 30]) ∧ Below w.heap.size w w' := by
  go_enter Try.func27, Try.ntmps27
  go_wp2_with (go_at_call 55; (refine (checkLength_bad P p pc q m qc _ _ _ (hP.up (Gr.below (by repeat (first | (with_reducible exact Gr.refl _) | with_reducible refine Gr.alloc ?_ _ | with_reducible refine Gr.more ?_ _ _ | with_reducible refine Gr.setCell ?_ (by dsimp only; omega) _ | with_reducible refine Gr.drew ?_)))) hs).mono ?_); rintro e w1 ⟨rfl, hb⟩; obtain ⟨os, n, rfl⟩ := Below.moreE hb; clear hb)
  refine bodyPost_ret (v := .tuple #[.slice none 0 0, ftV 0 0, .int .i64 30]) (by simp [results, Try.results27, go_sem, *]) rfl ⟨rfl, (Gr.below (by repeat (first | (with_reducible exact Gr.refl _) | with_reducible refine Gr.alloc ?_ _ | with_reducible refine Gr.more ?_ _ _ | with_reducible refine Gr.setCell ?_ (by dsimp only; omega) _ | with_reducible refine Gr.drew ?_)))⟩
set_option maxHeartbeats 1000000 in
theorem peek_arg (P : List Int) (p : Option Addr) (pc : Nat) (q : Option Addr) (m qc : Nat) (at0 n : Int) (w : World) (hP : SeqAt w p (iV P)) (hs : spB P m = true) (hn : n < 0 ∨ 2048 < n) :
    Calls Try.prog 27 #[spV p P.length pc q m qc, .int .i64 at0, .int .i64 n] w fun e w' => e = .returned (.tuple #[.slice none 0 0, ftV 0 0, .int .i64 1]) ∧ Below w.heap.size w w' := by
  go_enter Try.func27, Try.ntmps27
  go_wp2_with (go_at_call 55; (refine (checkLength_arg P p pc q m qc _ _ _ (hP.up (Gr.below (by repeat (first | (with_reducible exact Gr.refl _) | with_reducible refine Gr.alloc ?_ _ | with_reducible refine Gr.more ?_ _ _ | with_reducible refine Gr.setCell ?_ (by dsimp only; omega) _ | with_reducible refine Gr.drew ?_)))) hs hn).mono ?_); rintro e w1 ⟨rfl, hb⟩; obtain ⟨os, n, rfl⟩ := Below.moreE hb; clear hb)
  refine bodyPost_ret (v := .tuple #[.slice none 0 0, ftV 0 0, .int .i64 1]) (by simp [results, Try.results27, go_sem, *]) rfl ⟨rfl, (Gr.below (by repeat (first | (with_reducible exact Gr.refl _) | with_reducible refine Gr.alloc ?_ _ | with_reducible refine Gr.more ?_ _ _ | with_reducible refine Gr.setCell ?_ (by dsimp only; omega) _ | with_reducible refine Gr.drew ?_)))⟩
set_option maxHeartbeats 2000000 in
theorem peek_flt (P : List Int) (p : Option Addr) (pc : Nat) (B : List UInt8) (q : Option Addr) (qc : Nat) (at0 : Int) (nn : Nat) (w : World) (hS : SpAt w P p B q qc) (hs : spB P B.length = true) (hn : nn ≤ 2048) (hf : fltK P 0 at0 nn ≠ 0) :
    Calls Try.prog 27 #[spV p P.length pc q B.length qc, .int .i64 at0, .int .i64 (nn : Int)] w fun e w' => e = .returned (.tuple #[.slice none 0 0, ftV (fltK P 0 at0 nn) (fltA P 0 at0 nn), .int .i64 0]) ∧ Below w.heap.size w w' := by
  have h0 : ¬ (nn : Int) < 0 := by omega
  have h1 : ¬ (2048 : Int) < (nn : Int) := by omega
  have HL := Lib.hid (spB_len hs)
  have HO : Hid (nn ≤ 2048) := Lib.hid (by omega)
  have HS := Lib.hid hS
  clear hn
  have R : ∀ W, Below w.heap.size w W → Calls Try.prog 56 #[spV p P.length pc q B.length qc] W fun e w' => ∃ q2 c PB, e = .returned (spV p P.length pc q2 P.length c) ∧ (q2 = some ⟨PB, 0, none⟩ ∨ P = []) ∧ SeqAt w' (some ⟨PB, 0, none⟩) (bV B) ∧ PB < w'.heap.size ∧ Below W.heap.size W w' := fun W hW => memoryOf_r P p pc B q qc W HL.out.1 HL.out.2 (hS.up hW)
  have R2 : ∀ q2 c2 PB perm W, Below w.heap.size w W → (q2 = some ⟨PB, 0, none⟩ ∨ P = []) → SeqAt W (some ⟨PB, 0, none⟩) (bV B) → PB < W.heap.size → Calls Try.prog 57 #[spV p P.length pc q2 P.length c2, .int .i64 at0, .int .i64 (nn : Int), .int .i64 perm] W fun e w' => ∃ vp vc, e = .returned (.tuple #[.slice vp (goodA P perm at0 nn) vc, ftV (fltK P perm at0 nn) (fltA P perm at0 nn)]) ∧
      SeqFar W.heap.size w' vp (bV (rdL B at0 (goodA P perm at0 nn))) ∧ Below W.heap.size W w' := fun q2 c2 PB perm W hW h1 h2 h3 => rd_r P p pc B q2 c2 PB at0 nn perm W HL.out HO.out (HS.out.up hW).perm (HS.out.up hW).old h1 h2 h3
  have hf' : (fltK P 0 at0 nn != 0) = true := bne_iff_ne.2 hf
  go_enter Try.func27, Try.ntmps27
  go_wp2_with first | (go_at_call 55; (refine (checkLength_ok P p pc q B.length qc _ _ _ (hS.perm.up (Gr.below (by repeat (first | (with_reducible exact Gr.refl _) | with_reducible refine Gr.alloc ?_ _ | with_reducible refine Gr.more ?_ _ _ | with_reducible refine Gr.setCell ?_ (by dsimp only; omega) _ | with_reducible refine Gr.drew ?_)))) hs h0 h1).mono ?_); rintro e w1 ⟨rfl, hb⟩; obtain ⟨oc, zc, rfl⟩ := Below.moreE hb; clear hb) | (go_at_call 56; (refine (R _ (Gr.below (by repeat (first | (with_reducible exact Gr.refl _) | with_reducible refine Gr.alloc ?_ _ | with_reducible refine Gr.more ?_ _ _ | with_reducible refine Gr.setCell ?_ (by dsimp only; omega) _ | with_reducible refine Gr.drew ?_)))).mono ?_); rintro e w1 ⟨q2, c2, PB, rfl, hq2, hs2, hlt2, hb⟩; obtain ⟨om, zm, rfl⟩ := Below.moreE hb; clear hb; simp only [World.more_more, Array.append_assoc] at hs2 hlt2) | (go_at_call 57; (refine (R2 _ _ _ _ _ (Gr.below (by repeat (first | (with_reducible exact Gr.refl _) | with_reducible refine Gr.alloc ?_ _ | with_reducible refine Gr.more ?_ _ _ | with_reducible refine Gr.setCell ?_ (by dsimp only; omega) _ | with_reducible refine Gr.drew ?_))) hq2 hs2 hlt2).mono ?_); rintro e w1 ⟨vp, vc, rfl, hv, hb⟩; obtain ⟨od, zd, rfl⟩ := Below.moreE hb; clear hb; simp only [World.more_more, Array.append_assoc] at hv)
  go_region_held3 (fun w' => w'.cell? ⟨w.heap.size + 1 + 1 + (oc.size + (om.size + od.size)), 0, none⟩ = some (.int .i64 (fltK P 0 at0 nn)) ∧ w'.cell? ⟨w.heap.size + 1 + 1 + (oc.size + (om.size + od.size)), 1, none⟩ = some (.int .i64 (fltA P 0 at0 nn))) (exact ⟨by go_simp, by go_simp⟩) (fail)
  go_wp2
  refine bodyPost_ret (v := .tuple #[.slice none 0 0, ftV (fltK P 0 at0 nn) (fltA P 0 at0 nn), .int .i64 0]) (by simp [results, Try.results27, go_sem, *]) rfl ⟨rfl, (Gr.below (by repeat (first | (with_reducible exact Gr.refl _) | with_reducible refine Gr.alloc ?_ _ | with_reducible refine Gr.more ?_ _ _ | with_reducible refine Gr.setCell ?_ (by dsimp only; omega) _ | with_reducible refine Gr.drew ?_)))⟩
set_option maxHeartbeats 2000000 in
theorem peek_ok (P : List Int) (p : Option Addr) (pc : Nat) (B : List UInt8) (q : Option Addr) (qc : Nat) (at0 : Int) (nn : Nat) (w : World) (hS : SpAt w P p B q qc) (hs : spB P B.length = true) (hn : nn ≤ 2048) (hf : fltK P 0 at0 nn = 0) :
    Calls Try.prog 27 #[spV p P.length pc q B.length qc, .int .i64 at0, .int .i64 (nn : Int)] w fun e w' => ∃ vp vc, e = .returned (.tuple #[.slice vp nn vc, ftV 0 0, .int .i64 0]) ∧ SeqFar w.heap.size w' vp (bV (rdL B at0 nn)) ∧ Below w.heap.size w w' := by
  have h0 : ¬ (nn : Int) < 0 := by omega
  have h1 : ¬ (2048 : Int) < (nn : Int) := by omega
  have HL := Lib.hid (spB_len hs)
  have HO : Hid (nn ≤ 2048) := Lib.hid (by omega)
  have HS := Lib.hid hS
  clear hn
  have R : ∀ W, Below w.heap.size w W → Calls Try.prog 56 #[spV p P.length pc q B.length qc] W fun e w' => ∃ q2 c PB, e = .returned (spV p P.length pc q2 P.length c) ∧ (q2 = some ⟨PB, 0, none⟩ ∨ P = []) ∧ SeqAt w' (some ⟨PB, 0, none⟩) (bV B) ∧ PB < w'.heap.size ∧ Below W.heap.size W w' := fun W hW => memoryOf_r P p pc B q qc W HL.out.1 HL.out.2 (hS.up hW)
  have R2 : ∀ q2 c2 PB perm W, Below w.heap.size w W → (q2 = some ⟨PB, 0, none⟩ ∨ P = []) → SeqAt W (some ⟨PB, 0, none⟩) (bV B) → PB < W.heap.size → Calls Try.prog 57 #[spV p P.length pc q2 P.length c2, .int .i64 at0, .int .i64 (nn : Int), .int .i64 perm] W fun e w' => ∃ vp vc, e = .returned (.tuple #[.slice vp (goodA P perm at0 nn) vc, ftV (fltK P perm at0 nn) (fltA P perm at0 nn)]) ∧
      SeqFar W.heap.size w' vp (bV (rdL B at0 (goodA P perm at0 nn))) ∧ Below W.heap.size W w' := fun q2 c2 PB perm W hW h1 h2 h3 => rd_r P p pc B q2 c2 PB at0 nn perm W HL.out HO.out (HS.out.up hW).perm (HS.out.up hW).old h1 h2 h3
  have hg := fltK_zero.1 hf
  have ha : fltA P 0 at0 nn = 0 := by simp [fltA, hg]
  replace R2 : ∀ q2 c2 PB W, Below w.heap.size w W → (q2 = some ⟨PB, 0, none⟩ ∨ P = []) → SeqAt W (some ⟨PB, 0, none⟩) (bV B) → PB < W.heap.size → Calls Try.prog 57 #[spV p P.length pc q2 P.length c2, .int .i64 at0, .int .i64 (nn : Int), .int .i64 0] W fun e w' => ∃ vp vc, e = .returned (.tuple #[.slice vp nn vc, ftV 0 0]) ∧
      SeqFar W.heap.size w' vp (bV (rdL B at0 nn)) ∧ Below W.heap.size W w' := fun q2 c2 PB W h1 h2 h3 h4 => by
    have := R2 q2 c2 PB 0 W h1 h2 h3 h4
    rw [hf, ha, hg] at this
    exact this
  clear hf hg ha
  go_enter Try.func27, Try.ntmps27
  go_wp2_with first | (go_at_call 55; (refine (checkLength_ok P p pc q B.length qc _ _ _ (hS.perm.up (Gr.below (by repeat (first | (with_reducible exact Gr.refl _) | with_reducible refine Gr.alloc ?_ _ | with_reducible refine Gr.more ?_ _ _ | with_reducible refine Gr.setCell ?_ (by dsimp only; omega) _ | with_reducible refine Gr.drew ?_)))) hs h0 h1).mono ?_); rintro e w1 ⟨rfl, hb⟩; obtain ⟨oc, zc, rfl⟩ := Below.moreE hb; clear hb) | (go_at_call 56; (refine (R _ (Gr.below (by repeat (first | (with_reducible exact Gr.refl _) | with_reducible refine Gr.alloc ?_ _ | with_reducible refine Gr.more ?_ _ _ | with_reducible refine Gr.setCell ?_ (by dsimp only; omega) _ | with_reducible refine Gr.drew ?_)))).mono ?_); rintro e w1 ⟨q2, c2, PB, rfl, hq2, hs2, hlt2, hb⟩; obtain ⟨om, zm, rfl⟩ := Below.moreE hb; clear hb; simp only [World.more_more, Array.append_assoc] at hs2 hlt2) | (go_at_call 57; (refine (R2 _ _ _ _ (Gr.below (by repeat (first | (with_reducible exact Gr.refl _) | with_reducible refine Gr.alloc ?_ _ | with_reducible refine Gr.more ?_ _ _ | with_reducible refine Gr.setCell ?_ (by dsimp only; omega) _ | with_reducible refine Gr.drew ?_))) hq2 hs2 hlt2).mono ?_); rintro e w1 ⟨vp, vc, rfl, hv, hb⟩; obtain ⟨od, zd, rfl⟩ := Below.moreE hb; clear hb; simp only [World.more_more, Array.append_assoc] at hv)
  refine bodyPost_ret (v := .tuple #[.slice vp nn vc, ftV 0 0, .int .i64 0]) (by simp [results, Try.results27, go_sem, *]) rfl ⟨vp, vc, rfl, hv.ofF (fun hv => by repeat (first | (with_reducible exact hv) | with_reducible refine SeqFar.alloc ?_ _ | with_reducible refine SeqFar.more ?_ _ _ | with_reducible refine SeqFar.set ?_ (by dsimp only; (try simp only [World.size_more, World.size_alloc, World.size_setCell, World.size_drew]); omega) _ | with_reducible refine SeqFar.drew ?_)) (by (try simp only [World.size_more, World.size_alloc, World.size_setCell, World.size_drew]); omega), (Gr.below (by repeat (first | (with_reducible exact Gr.refl _) | with_reducible refine Gr.alloc ?_ _ | with_reducible refine Gr.more ?_ _ _ | with_reducible refine Gr.setCell ?_ (by dsimp only; omega) _ | with_reducible refine Gr.drew ?_)))⟩
end Go.Proofs.Ytnapbpfofpaakaa

namespace Go.Proofs.Ytnapbpfofpaakaa
open Go.RowKit

theorem adr_lit {at0 : Int} {k : Nat} (h0 : 0 ≤ at0) (h : at0 + k ≤ 9223372036854775807) : adr at0 k = at0 + k := by unfold adr wrap64; omega
theorem adr_adr (at0 : Int) (i j : Nat) : adr (adr at0 i) j = adr at0 (i + j) := by unfold adr wrap64; omega
theorem adr_zero {at0 : Int} (h : I64 at0) : adr at0 0 = at0 := by obtain ⟨_, _⟩ := h; unfold adr wrap64; omega
theorem adr_I64 (at0 : Int) (k : Nat) : I64 (adr at0 k) := by unfold adr wrap64 I64; omega
theorem adr_adr0 (at0 : Int) (i : Nat) : adr (adr at0 i) 0 = adr at0 i := adr_adr at0 i 0

theorem good_one (P : List Int) (perm a : Int) : goodA P perm a 1 = if kindA P perm (adr a 0) = 0 then 1 else 0 := by
  simp [goodA, cnt, okA]
theorem fltK_one (P : List Int) (perm a : Int) : fltK P perm a 1 = kindA P perm (adr a 0) := by
  unfold fltK
  rw [good_one]
  by_cases h : kindA P perm (adr a 0) = 0 <;> simp [h]
theorem fltA_one (P : List Int) (perm a : Int) : fltA P perm a 1 = if kindA P perm (adr a 0) = 0 then 0 else adr a 0 := by
  unfold fltA
  rw [good_one]
  by_cases h : kindA P perm (adr a 0) = 0 <;> simp [h]
theorem flt_zero_iff {P : List Int} {perm at0 : Int} {n : Nat} : fltK P perm at0 n = 0 ↔ ∀ j, j < n → kindA P perm (adr at0 j) = 0 := by
  rw [fltK_zero]
  constructor
  · intro h j hj
    have := cnt_ok (okA P perm at0) n j (by unfold goodA at h; omega)
    simpa [okA] using this
  · intro h
    exact cnt_all _ _ (fun j hj => by simp [okA, h j hj])
theorem fltA_zero {P : List Int} {perm at0 : Int} {n : Nat} (h : fltK P perm at0 n = 0) : fltA P perm at0 n = 0 := by
  simp [fltA, fltK_zero.1 h]
theorem good_zero {P : List Int} {perm at0 : Int} {n : Nat} (h : fltK P perm at0 n = 0) : goodA P perm at0 n = n := fltK_zero.1 h
theorem kind_in {P : List Int} {perm a : Int} (h : kindA P perm a = 0) : 0 ≤ a ∧ a < 64 * P.length := by
  unfold kindA at h
  split at h
  · cases h
  · omega
theorem in_of_flt {P : List Int} {perm at0 : Int} {n : Nat} (hI : I64 at0) (hl : P.length ≤ 32) (hn : n ≤ 2048) (h0 : 0 < n) (hf : fltK P perm at0 n = 0) : 0 ≤ at0 ∧ at0 + n ≤ 64 * P.length := by
  have h := flt_zero_iff.1 hf
  have a := kind_in (h 0 h0)
  rw [adr_zero hI] at a
  have b := kind_in (h (n - 1) (by omega))
  rw [adr_lit a.1 (by omega)] at b
  omega

theorem rdA_lit {B : List UInt8} {at0 : Int} {k : Nat} (h0 : 0 ≤ at0) (h : at0 + k ≤ 9223372036854775807) : rdA B at0 k = B.getD (at0.toNat + k) 0 := by
  unfold rdA
  rw [adr_lit h0 h]
  congr 1
  omega
theorem rdL_getD (B : List UInt8) (at0 : Int) (n j : Nat) : (rdL B at0 n).getD j 0 = if j < n then rdA B at0 j else 0 := by
  by_cases h : j < n
  · simp [rdL, List.getD, h]
  · have : (rdL B at0 n)[j]? = none := List.getElem?_eq_none (by rw [rdL_len]; omega)
    simp [List.getD, this, h]
theorem getD_app {A B : List UInt8} {i : Nat} (h : i < A.length) : (A ++ B).getD i 0 = A.getD i 0 := by
  simp [List.getD, List.getElem?_append_left h]
theorem getD_appR {A B : List UInt8} {i : Nat} (h : A.length ≤ i) : (A ++ B).getD i 0 = B.getD (i - A.length) 0 := by
  simp [List.getD, List.getElem?_append_right h]
theorem ext_getD {A B : List UInt8} (hl : A.length = B.length) (h : ∀ i, i < A.length → A.getD i 0 = B.getD i 0) : A = B := by
  refine List.ext_getElem hl (fun i h1 h2 => ?_)
  have := h i h1
  simpa [List.getD, h1, h2] using this
theorem getD_big {A : List UInt8} {i : Nat} (h : A.length ≤ i) : A.getD i 0 = 0 := by
  simp [List.getD, List.getElem?_eq_none h]
theorem wrL_getD {B : List UInt8} {at0 : Int} {bs : List UInt8} (h0 : 0 ≤ at0) (hB : B.length ≤ 4096) : ∀ {k : Nat}, at0 + k ≤ B.length → ∀ i, (wrL B at0 bs k).getD i 0 = if at0.toNat ≤ i ∧ i < at0.toNat + k then bs.getD (i - at0.toNat) 0 else B.getD i 0
  | 0, _, i => by
    rw [if_neg (by omega)]; rfl
  | k + 1, h, i => by
    have ih := wrL_getD (bs := bs) h0 hB (k := k) (by omega) i
    have e : (adr at0 k).toNat = at0.toNat + k := by rw [adr_lit h0 (by omega)]; omega
    show ((wrL B at0 bs k).set (adr at0 k).toNat (bs.getD k 0)).getD i 0 = _
    rw [e]
    have hl := wrL_len B at0 bs k
    by_cases hi : i = at0.toNat + k
    · subst hi
      rw [if_pos (by omega)]
      have h3 : at0.toNat + k < (wrL B at0 bs k).length := by omega
      simp [List.getD, h3]
    · have : ((wrL B at0 bs k).set (at0.toNat + k) (bs.getD k 0)).getD i 0 = (wrL B at0 bs k).getD i 0 := by
        simp only [List.getD]
        rw [List.getElem?_set_ne (by omega)]
      rw [this, ih]
      by_cases hc : at0.toNat ≤ i ∧ i < at0.toNat + k
      · rw [if_pos hc, if_pos (by omega)]
      · rw [if_neg hc, if_neg (by omega)]
theorem rd_wr_same {B : List UInt8} {at0 : Int} {bs : List UInt8} (h0 : 0 ≤ at0) (hB : B.length ≤ 4096) (h : at0 + bs.length ≤ B.length) : rdL (wrL B at0 bs bs.length) at0 bs.length = bs := by
  refine ext_getD (rdL_len _ _ _) (fun i hi => ?_)
  rw [rdL_len] at hi
  rw [rdL_getD, if_pos hi, rdA_lit h0 (by omega), wrL_getD h0 hB h, if_pos (by omega)]
  congr 1
  omega
theorem rd_wr_apart {B : List UInt8} {a b : Int} {bs : List UInt8} {n m : Nat} (a0 : 0 ≤ a) (b0 : 0 ≤ b) (hB : B.length ≤ 4096) (h : a + n ≤ B.length) (h2 : b + m ≤ B.length) (hd : a + n ≤ b ∨ b + m ≤ a) : rdL (wrL B a bs n) b m = rdL B b m := by
  refine ext_getD (by rw [rdL_len, rdL_len]) (fun i hi => ?_)
  rw [rdL_len] at hi
  rw [rdL_getD, rdL_getD, if_pos hi, if_pos hi, rdA_lit b0 (by omega), rdA_lit b0 (by omega), wrL_getD a0 hB h, if_neg (by omega)]
theorem wr_wr_apart {B : List UInt8} {a b : Int} {bs cs : List UInt8} {n m : Nat} (a0 : 0 ≤ a) (b0 : 0 ≤ b) (hB : B.length ≤ 4096) (h : a + n ≤ B.length) (h2 : b + m ≤ B.length) (hd : a + n ≤ b ∨ b + m ≤ a) : wrL (wrL B a bs n) b cs m = wrL (wrL B b cs m) a bs n := by
  have l1 := wrL_len B a bs n
  have l2 := wrL_len B b cs m
  refine ext_getD (by rw [wrL_len, wrL_len, wrL_len, wrL_len]) (fun i _ => ?_)
  rw [wrL_getD b0 (B := wrL B a bs n) (by omega) (by omega), wrL_getD a0 (B := wrL B b cs m) (by omega) (by omega), wrL_getD a0 hB h, wrL_getD b0 hB h2]
  by_cases c1 : a.toNat ≤ i ∧ i < a.toNat + n
  · rw [if_neg (by omega), if_pos c1, if_pos c1]
  · rw [if_neg c1, if_neg c1]

theorem permB_cases {p : Int} (h : permB p = true) : p = 0 ∨ p = 1 ∨ p = 3 ∨ p = 4 := by simpa [permB, or_assoc] using h
theorem spB_perm {P : List Int} {m : Nat} (h : spB P m = true) (i : Nat) : permB (P.getD i 0) = true := by
  simp [spB] at h
  by_cases hi : i < P.length
  · have := h.2 P[i] (List.getElem_mem hi)
    simpa [List.getD, hi] using this
  · simp [List.getD, List.getElem?_eq_none (Nat.le_of_not_lt hi), permB]
/-- What may be written may be read. -/
theorem kind_wr {P : List Int} {m : Nat} (hs : spB P m = true) {a : Int} (h : kindA P 2 a = 0) : kindA P 1 a = 0 ∧ kindA P 0 a = 0 ∧ P.getD (a / 64).toNat 0 = 3 := by
  unfold kindA at *
  split at h
  · cases h
  · rename_i hc
    rw [if_neg hc, if_neg hc]
    rcases permB_cases (spB_perm hs (a / 64).toNat) with e | e | e | e <;> rw [e] at h ⊢
    · revert h; decide
    · revert h; decide
    · decide
    · revert h; decide
theorem flt_wr {P : List Int} {m : Nat} (hs : spB P m = true) {at0 : Int} {n : Nat} (h : fltK P 2 at0 n = 0) : fltK P 1 at0 n = 0 ∧ fltK P 0 at0 n = 0 :=
  ⟨flt_zero_iff.2 fun j hj => (kind_wr hs (flt_zero_iff.1 h j hj)).1, flt_zero_iff.2 fun j hj => (kind_wr hs (flt_zero_iff.1 h j hj)).2.1⟩
/-- The faults of two halves. -/
theorem flt_halves {P : List Int} {perm at0 : Int} {n m : Nat} : fltK P perm at0 (n + m) = 0 ↔ fltK P perm at0 n = 0 ∧ fltK P perm (adr at0 n) m = 0 := by
  rw [flt_zero_iff, flt_zero_iff, flt_zero_iff]
  constructor
  · intro h
    exact ⟨fun j hj => h j (by omega), fun j hj => by rw [adr_adr]; exact h (n + j) (by omega)⟩
  · rintro ⟨h1, h2⟩ j hj
    by_cases c : j < n
    · exact h1 j c
    · have := h2 (j - n) (by omega)
      rw [adr_adr, show n + (j - n) = j by omega] at this
      exact this
theorem rd_halves (B : List UInt8) (at0 : Int) (n m : Nat) : rdL B at0 (n + m) = rdL B at0 n ++ rdL B (adr at0 n) m := by
  refine ext_getD (by simp [rdL_len]) (fun i hi => ?_)
  rw [rdL_len] at hi
  rw [rdL_getD, if_pos hi]
  by_cases c : i < n
  · rw [getD_app (by rw [rdL_len]; exact c), rdL_getD, if_pos c]
  · rw [getD_appR (by rw [rdL_len]; omega), rdL_getD, rdL_len, if_pos (by omega)]
    unfold rdA
    rw [adr_adr, show n + (i - n) = i by omega]
theorem wr_halves {B : List UInt8} {at0 : Int} {bs cs : List UInt8} : ∀ m, wrL B at0 (bs ++ cs) (bs.length + m) = wrL (wrL B at0 bs bs.length) (adr at0 bs.length) cs m
  | 0 => by
    show wrL B at0 (bs ++ cs) bs.length = _
    have : ∀ k, k ≤ bs.length → wrL B at0 (bs ++ cs) k = wrL B at0 bs k := fun k => by
      induction k with
      | zero => intro _; rfl
      | succ k ih =>
        intro hk
        show (wrL B at0 (bs ++ cs) k).set _ ((bs ++ cs).getD k 0) = (wrL B at0 bs k).set _ (bs.getD k 0)
        rw [ih (by omega), getD_app (by omega)]
    rw [this _ (Nat.le_refl _)]
    rfl
  | m + 1 => by
    show (wrL B at0 (bs ++ cs) (bs.length + m)).set (adr at0 (bs.length + m)).toNat ((bs ++ cs).getD (bs.length + m) 0) = (wrL (wrL B at0 bs bs.length) (adr at0 bs.length) cs m).set (adr (adr at0 bs.length) m).toNat (cs.getD m 0)
    rw [wr_halves m, adr_adr, getD_appR (by omega), show bs.length + m - bs.length = m by omega]
end Go.Proofs.Ytnapbpfofpaakaa

namespace Go.Proofs.Ytnapbpfofpaakaa
open Go.RowKit

/-- The cells of a block, which may be written. -/
structure Bx (W : World) (b : Nat) (vs : List Value) : Prop where
  get : ∀ j v, vs[j]? = some v → W.cell? ⟨b, j, none⟩ = some v
  fz : ∀ j v, vs[j]? = some v → W.frozen? ⟨b, j, none⟩ = false
  lt : b < W.heap.size
theorem Bx.up {W W' : World} (g : Gr W.heap.size W W') {b : Nat} {vs : List Value} (h : Bx W b vs) : Bx W' b vs :=
  ⟨fun j v hj => cell_up g.below h.lt (h.get j v hj), fun j v hj => (g.below.frozen h.lt).trans (h.fz j v hj), Nat.lt_of_lt_of_le h.lt g.size⟩
theorem Bx.caught {m : Nat} {W W' : World} (g : Caught m W W') {b : Nat} {vs : List Value} (h : Bx W b vs) (hb : b ≠ m) : Bx W' b vs :=
  ⟨fun j v hj => g.cell hb (h.get j v hj), fun j v hj => (World.frozen?_of_block (w := W) (g.other _ h.lt hb)).trans (h.fz j v hj), Nat.lt_of_lt_of_le h.lt g.size⟩
theorem Bx.mk2 {W : World} {b : Nat} {u v : Value} (h0 : W.cell? ⟨b, 0, none⟩ = some u) (h1 : W.cell? ⟨b, 1, none⟩ = some v) (f0 : W.frozen? ⟨b, 0, none⟩ = false) (f1 : W.frozen? ⟨b, 1, none⟩ = false) : Bx W b [u, v] :=
  ⟨fun j x hj => by match j with
    | 0 => simpa using h0.trans hj
    | 1 => simpa using h1.trans hj
    | _ + 2 => simp at hj, fun j x hj => by match j with
    | 0 => exact f0
    | 1 => exact f1
    | _ + 2 => simp at hj, lt_of_cell h0⟩
theorem Bx.mk3 {W : World} {b : Nat} {u v x : Value} (h0 : W.cell? ⟨b, 0, none⟩ = some u) (h1 : W.cell? ⟨b, 1, none⟩ = some v) (h2 : W.cell? ⟨b, 2, none⟩ = some x) (f0 : W.frozen? ⟨b, 0, none⟩ = false) (f1 : W.frozen? ⟨b, 1, none⟩ = false) (f2 : W.frozen? ⟨b, 2, none⟩ = false) : Bx W b [u, v, x] :=
  ⟨fun j y hj => by match j with
    | 0 => simpa using h0.trans hj
    | 1 => simpa using h1.trans hj
    | 2 => simpa using h2.trans hj
    | _ + 3 => simp at hj, fun j x hj => by match j with
    | 0 => exact f0
    | 1 => exact f1
    | 2 => exact f2
    | _ + 3 => simp at hj, lt_of_cell h0⟩
theorem Bx.mk4 {W : World} {b : Nat} {u v x y : Value} (h0 : W.cell? ⟨b, 0, none⟩ = some u) (h1 : W.cell? ⟨b, 1, none⟩ = some v) (h2 : W.cell? ⟨b, 2, none⟩ = some x) (h3 : W.cell? ⟨b, 3, none⟩ = some y)
    (f0 : W.frozen? ⟨b, 0, none⟩ = false) (f1 : W.frozen? ⟨b, 1, none⟩ = false) (f2 : W.frozen? ⟨b, 2, none⟩ = false) (f3 : W.frozen? ⟨b, 3, none⟩ = false) : Bx W b [u, v, x, y] :=
  ⟨fun j z hj => by match j with
    | 0 => simpa using h0.trans hj
    | 1 => simpa using h1.trans hj
    | 2 => simpa using h2.trans hj
    | 3 => simpa using h3.trans hj
    | _ + 4 => simp at hj, fun j x hj => by match j with
    | 0 => exact f0
    | 1 => exact f1
    | 2 => exact f2
    | 3 => exact f3
    | _ + 4 => simp at hj, lt_of_cell h0⟩
/-- The cells of a slice in blocks from a number to another one. -/
def SeqIn (lo hi : Nat) (w : World) (p : Option Addr) (xs : List Value) : Prop := xs = [] ∨ ∃ b o, p = some ⟨b, o, none⟩ ∧ lo ≤ b ∧ b < hi ∧ ∀ j v, xs[j]? = some v → w.cell? ⟨b, o + j, none⟩ = some v
theorem SeqIn.at {lo hi : Nat} {w : World} {p : Option Addr} {xs : List Value} (h : SeqIn lo hi w p xs) : SeqAt w p xs := by
  rcases h with h | ⟨b, o, hp, _, _, h⟩
  · exact .inl h
  · exact .inr ⟨b, o, hp, h⟩
theorem SeqIn.up {lo hi : Nat} {W W' : World} (g : Gr W.heap.size W W') {p : Option Addr} {xs : List Value} (h : SeqIn lo hi W p xs) : SeqIn lo hi W' p xs := by
  rcases h with h | ⟨b, o, hp, h1, h2, h⟩
  · exact .inl h
  · exact .inr ⟨b, o, hp, h1, h2, fun j v hj => cell_up g.below (lt_of_cell (h j v hj)) (h j v hj)⟩
theorem SeqIn.mono {lo hi lo' hi' : Nat} {W : World} {p : Option Addr} {xs : List Value} (h : SeqIn lo hi W p xs) (hl : lo' ≤ lo) (hh : hi ≤ hi') : SeqIn lo' hi' W p xs := by
  rcases h with h | ⟨b, o, hp, h1, h2, h⟩
  · exact .inl h
  · exact .inr ⟨b, o, hp, by omega, by omega, h⟩
theorem SeqIn.caught {lo hi m : Nat} {W W' : World} (g : Caught m W W') {p : Option Addr} {xs : List Value} (h : SeqIn lo hi W p xs) (hm : m < lo ∨ hi ≤ m) : SeqIn lo hi W' p xs := by
  rcases h with h | ⟨b, o, hp, h1, h2, h⟩
  · exact .inl h
  · exact .inr ⟨b, o, hp, h1, h2, fun j v hj => g.cell (by omega) (h j v hj)⟩
theorem SeqFar.in {lo : Nat} {W : World} {p : Option Addr} {xs : List Value} (h : SeqFar lo W p xs) : SeqIn lo W.heap.size W p xs := by
  rcases h with h | ⟨b, o, hp, h1, h⟩
  · exact .inl h
  · cases xs with
    | nil => exact .inl rfl
    | cons x xs => exact .inr ⟨b, o, hp, h1, lt_of_cell (h 0 x rfl), h⟩
/-- A space whose slices lie so. -/
structure SpIn (lo hi : Nat) (w : World) (P : List Int) (p : Option Addr) (B : List UInt8) (q : Option Addr) (qc : Nat) : Prop where
  perm : SeqIn lo hi w p (iV P)
  byte : SeqIn lo hi w q (bV B)
  old : ∀ b o, p = some ⟨b, o, none⟩ → b < w.heap.size
  cap : B.length ≤ qc
section
variable {lo hi : Nat} {W W' : World} {P : List Int} {p : Option Addr} {B : List UInt8} {q : Option Addr} {qc : Nat}
theorem SpIn.at (h : SpIn lo hi W P p B q qc) : SpAt W P p B q qc := ⟨h.perm.at, h.byte.at, h.old, h.cap⟩
theorem SpIn.up (g : Gr W.heap.size W W') (h : SpIn lo hi W P p B q qc) : SpIn lo hi W' P p B q qc := ⟨h.perm.up g, h.byte.up g, fun b o e => Nat.lt_of_lt_of_le (h.old b o e) g.below.size, h.cap⟩
theorem SpIn.mono {lo' hi' : Nat} (h : SpIn lo hi W P p B q qc) (hl : lo' ≤ lo) (hh : hi ≤ hi') : SpIn lo' hi' W P p B q qc := ⟨h.perm.mono hl hh, h.byte.mono hl hh, h.old, h.cap⟩
theorem SpIn.caught {m : Nat} (g : Caught m W W') (h : SpIn lo hi W P p B q qc) (hm : m < lo ∨ hi ≤ m) : SpIn lo hi W' P p B q qc :=
  ⟨h.perm.caught g hm, h.byte.caught g hm, fun b o e => Nat.lt_of_lt_of_le (h.old b o e) g.size, h.cap⟩
theorem SpFar.in (h : SpFar lo W P p B q qc) : SpIn lo W.heap.size W P p B q qc := ⟨h.perm.in, h.byte.in, h.old, h.cap⟩
end
/-- A value that is a space; a box that holds one whose slices are older than the box. -/
def SpVal (lo : Nat) (W : World) (v : Value) (P : List Int) (B : List UInt8) : Prop := ∃ p pc q qc, v = spV p P.length pc q B.length qc ∧ SpIn lo W.heap.size W P p B q qc
def SpBx (lo : Nat) (W : World) (b : Nat) (P : List Int) (B : List UInt8) : Prop := ∃ p pc q qc, Bx W b [.slice p P.length pc, .slice q B.length qc] ∧ SpIn lo b W P p B q qc
theorem SpBx.up {lo : Nat} {W W' : World} (g : Gr W.heap.size W W') {b : Nat} {P : List Int} {B : List UInt8} (h : SpBx lo W b P B) : SpBx lo W' b P B := by
  obtain ⟨p, pc, q, qc, h1, h2⟩ := h
  exact ⟨p, pc, q, qc, h1.up g, h2.up g⟩
theorem SpBx.lt {lo : Nat} {W : World} {b : Nat} {P : List Int} {B : List UInt8} (h : SpBx lo W b P B) : b < W.heap.size := by
  obtain ⟨p, pc, q, qc, h1, h2⟩ := h
  exact h1.lt
theorem SpBx.caught {m lo : Nat} {W W' : World} (g : Caught m W W') {b : Nat} {P : List Int} {B : List UInt8} (h : SpBx lo W b P B) (hm : m < lo ∨ b < m) (hb : b ≠ m) : SpBx lo W' b P B := by
  obtain ⟨p, pc, q, qc, h1, h2⟩ := h
  exact ⟨p, pc, q, qc, h1.caught g hb, h2.caught g (by omega)⟩
theorem Gr.trans {B : Nat} {a w w' : World} (h : Gr B a w) (g : Gr w.heap.size w w') : Gr B a w' := ⟨h.below.trans (g.below.mono h.size), Nat.le_trans h.size g.size⟩
theorem Gr.caught {B m : Nat} {a w w' : World} (h : Gr B a w) (g : Caught m w w') (hm : B ≤ m) : Gr B a w' := ⟨Caught.below h.below g hm h.size, Nat.le_trans h.size g.size⟩
/-- A value that is a slice of bytes. -/
def SqVal (lo : Nat) (W : World) (v : Value) (X : List UInt8) : Prop := ∃ p c, v = .slice p X.length c ∧ SeqIn lo W.heap.size W p (bV X)
theorem SqVal.up {lo : Nat} {W W' : World} (g : Gr W.heap.size W W') {v : Value} {X : List UInt8} (h : SqVal lo W v X) : SqVal lo W' v X := by
  obtain ⟨p, c, h1, h2⟩ := h
  exact ⟨p, c, h1, (h2.up g).mono (Nat.le_refl _) g.size⟩
theorem SqVal.caught {lo m : Nat} {W W' : World} (g : Caught m W W') {v : Value} {X : List UInt8} (h : SqVal lo W v X) (hm : m < lo) : SqVal lo W' v X := by
  obtain ⟨p, c, h1, h2⟩ := h
  exact ⟨p, c, h1, (h2.caught g (.inl hm)).mono (Nat.le_refl _) g.size⟩
theorem spNone (lo : Nat) (W : World) : SpVal lo W (spV none 0 0 none 0 0) [] [] := ⟨none, 0, none, 0, rfl, .inl rfl, .inl rfl, (fun _ _ e => by cases e), Nat.le_refl _⟩

section
variable (P : List Int) (B : List UInt8)
/-- What the calls answer. -/
def CCheck (E : Int) : Prop := ∀ w p pc q qc, SpAt w P p B q qc → Calls Try.prog 21 #[spV p P.length pc q B.length qc] w fun e w' => e = .returned (.int .i64 E) ∧ Below w.heap.size w w'
def CAcc (at0 n m K A E : Int) : Prop := ∀ w p pc q qc, SpAt w P p B q qc → Calls Try.prog 25 #[spV p P.length pc q B.length qc, .int .i64 at0, .int .i64 n, .int .i64 m] w fun e w' => e = .returned (.tuple #[ftV K A, .int .i64 E]) ∧ Below w.heap.size w w'
def CLoad (at0 s : Int) (g : Bool) (V K A E : Int) : Prop := ∀ w p pc q qc, SpAt w P p B q qc → Calls Try.prog 33 #[spV p P.length pc q B.length qc, .int .i64 at0, tyV s g] w fun e w' => e = .returned (.tuple #[.int .i64 V, ftV K A, .int .i64 E]) ∧ Below w.heap.size w w'
def CStore (at0 s : Int) (g : Bool) (x : Int) (P' : List Int) (B' : List UInt8) (K A E : Int) : Prop := ∀ w p pc q qc, SpAt w P p B q qc → Calls Try.prog 34 #[spV p P.length pc q B.length qc, .int .i64 at0, tyV s g, .int .i64 x] w fun e w' => ∃ v, e = .returned (.tuple #[v, ftV K A, .int .i64 E]) ∧ SpVal w.heap.size w' v P' B' ∧ Below w.heap.size w w'
def CFetch (at0 n : Int) (X : List UInt8) (E : Int) : Prop := ∀ w p pc q qc, SpAt w P p B q qc → Calls Try.prog 26 #[spV p P.length pc q B.length qc, .int .i64 at0, .int .i64 n] w fun e w' => ∃ v, e = .returned (.tuple #[v, .int .i64 E]) ∧ SqVal w.heap.size w' v X ∧ Below w.heap.size w w'
def CPeek (at0 n : Int) (X : List UInt8) (K A E : Int) : Prop := ∀ w p pc q qc, SpAt w P p B q qc → Calls Try.prog 27 #[spV p P.length pc q B.length qc, .int .i64 at0, .int .i64 n] w fun e w' => ∃ v, e = .returned (.tuple #[v, ftV K A, .int .i64 E]) ∧ SqVal w.heap.size w' v X ∧ Below w.heap.size w w'
def CPoke (at0 : Int) (bs : List UInt8) (P' : List Int) (B' : List UInt8) (K A E : Int) : Prop := ∀ w p pc q qc bq bc, SpAt w P p B q qc → SeqAt w bq (bV bs) → (∀ b o, bq = some ⟨b, o, none⟩ → b < w.heap.size) → Calls Try.prog 35 #[spV p P.length pc q B.length qc, .int .i64 at0, .slice bq bs.length bc] w fun e w' => ∃ v, e = .returned (.tuple #[v, ftV K A, .int .i64 E]) ∧ SpVal w.heap.size w' v P' B' ∧ Below w.heap.size w w'
def CString (at0 n : Int) (X : List UInt8) (K A E : Int) : Prop := ∀ w p pc q qc, SpAt w P p B q qc → Calls Try.prog 28 #[spV p P.length pc q B.length qc, .int .i64 at0, .int .i64 n] w fun e w' => e = .returned (.tuple #[.string ⟨X.toArray⟩, ftV K A, .int .i64 E]) ∧ Below w.heap.size w w'
def CSeal (k : Int) (P' : List Int) (B' : List UInt8) (E : Int) : Prop := ∀ w p pc q qc, SpAt w P p B q qc → Calls Try.prog 17 #[spV p P.length pc q B.length qc, .int .i64 k] w fun e w' => ∃ v, e = .returned (.tuple #[v, .int .i64 E]) ∧ SpVal w.heap.size w' v P' B' ∧ Below w.heap.size w w'
def CProt (k perm : Int) (P' : List Int) (B' : List UInt8) (E : Int) : Prop := ∀ w p pc q qc, SpAt w P p B q qc → Calls Try.prog 16 #[spV p P.length pc q B.length qc, .int .i64 k, .int .i64 perm] w fun e w' => ∃ v, e = .returned (.tuple #[v, .int .i64 E]) ∧ SpVal w.heap.size w' v P' B' ∧ Below w.heap.size w w'
def CSame (P2 : List Int) (B2 : List UInt8) (r : Bool) : Prop := ∀ w p pc q qc p2 pc2 q2 qc2, SpAt w P p B q qc → SpAt w P2 p2 B2 q2 qc2 → Calls Try.prog 24 #[spV p P.length pc q B.length qc, spV p2 P2.length pc2 q2 B2.length qc2] w fun e w' => e = .returned (.bool r) ∧ Below w.heap.size w w'
end
def CNew (n : Int) (P' : List Int) (B' : List UInt8) (E : Int) : Prop := ∀ w, Calls Try.prog 15 #[.int .i64 n] w fun e w' => ∃ v, e = .returned (.tuple #[v, .int .i64 E]) ∧ SpVal w.heap.size w' v P' B' ∧ Below w.heap.size w w'

theorem cCheck (P : List Int) (B : List UInt8) : CCheck P B (spE P B.length) := fun w p pc q qc h => mcheck_any P p pc q B.length qc w h.perm
theorem nat_of {n : Int} (h : ¬ n < 0) : ∃ k : Nat, n = k := ⟨n.toNat, by omega⟩

/-- An access's numbers. -/
def badN (n : Int) (most : Int) : Prop := n < 0 ∨ most < n
theorem cAcc_bad {P : List Int} {B : List UInt8} (hs : spB P B.length = false) (at0 n m : Int) : CAcc P B at0 n m 0 0 30 := fun w p pc q qc h => access_bad P p pc q B.length qc at0 n m w h.perm hs
theorem cAcc_arg {P : List Int} {B : List UInt8} (hs : spB P B.length = true) (at0 n m : Int) (hn : n < 0 ∨ 2048 < n ∨ (m ≠ 1 ∧ m ≠ 2 ∧ m ≠ 4)) : CAcc P B at0 n m 0 0 1 := fun w p pc q qc h => by
  by_cases h0 : n < 0 ∨ 2048 < n
  · exact access_arg P p pc q B.length qc at0 n m w h.perm hs h0
  · have h1 : m ≠ 1 ∧ m ≠ 2 ∧ m ≠ 4 := by rcases hn with a | a | a <;> first | exact a | omega
    exact access_perm P p pc q B.length qc at0 n m w h.perm hs (by omega) (by omega) (bne_iff_ne.2 h1.1) (bne_iff_ne.2 h1.2.1) (bne_iff_ne.2 h1.2.2)
theorem cAcc_ok {P : List Int} {B : List UInt8} (hs : spB P B.length = true) (at0 : Int) {n : Int} {k : Nat} (hk : n = k) (hn : k ≤ 2048) {m : Int} (hm : m = 1 ∨ m = 2 ∨ m = 4) : CAcc P B at0 n m (fltK P m at0 k) (fltA P m at0 k) 0 := fun w p pc q qc h => by
  subst hk
  exact access_ok P p pc B q qc at0 k m w h hs hn hm
theorem cLoad_bad {P : List Int} {B : List UInt8} (hs : spB P B.length = false) (at0 s : Int) (g : Bool) : CLoad P B at0 s g 0 0 0 30 := fun w p pc q qc h => load_bad P p pc q B.length qc at0 s g w h.perm hs
theorem eT_ne {s : Int} (h : validB s = false) : eT s ≠ 0 := by simp [eT, h]
theorem eT_bad {s : Int} (h : validB s = false) : eT s = 10 := by simp [eT, h]
theorem cLoad_type {P : List Int} {B : List UInt8} (hs : spB P B.length = true) (at0 : Int) {s : Int} (hv : validB s = false) (g : Bool) : CLoad P B at0 s g 0 0 0 10 := fun w p pc q qc h => by
  have := load_type P p pc q B.length qc at0 s g w h.perm hs (eT_ne hv)
  rwa [eT_bad hv] at this
theorem cLoad_flt {P : List Int} {B : List UInt8} (hs : spB P B.length = true) (at0 : Int) {s : Int} (hv : validB s = true) (g : Bool) (hf : fltK P 1 at0 s.toNat ≠ 0) : CLoad P B at0 s g 0 (fltK P 1 at0 s.toNat) (fltA P 1 at0 s.toNat) 0 := fun w p pc q qc h => load_flt P p pc B q qc at0 s g w h hs hv hf
theorem cLoad_ok {P : List Int} {B : List UInt8} (hs : spB P B.length = true) (at0 : Int) {s : Int} (hv : validB s = true) (g : Bool) (hf : fltK P 1 at0 s.toNat = 0) : CLoad P B at0 s g (fbV s g (rdL B at0 s.toNat)) 0 0 0 := fun w p pc q qc h => load_ok P p pc B q qc at0 s g w h hs hv hf
theorem cStore_bad {P : List Int} {B : List UInt8} (hs : spB P B.length = false) (at0 s : Int) (g : Bool) (x : Int) : CStore P B at0 s g x [] [] 0 0 30 := fun w p pc q qc h =>
  (store_bad P p pc q B.length qc at0 s g x w h.perm hs).mono fun _ w' ⟨h1, h2⟩ => ⟨_, h1, spNone _ w', h2⟩
theorem cStore_type {P : List Int} {B : List UInt8} (hs : spB P B.length = true) (at0 : Int) {s : Int} (hv : validB s = false) (g : Bool) (x : Int) : CStore P B at0 s g x [] [] 0 0 10 := fun w p pc q qc h => by
  have := store_type P p pc q B.length qc at0 s g x w h.perm hs (eT_ne hv)
  rw [eT_bad hv] at this
  exact this.mono fun _ w' ⟨h1, h2⟩ => ⟨_, h1, spNone _ w', h2⟩
theorem cStore_flt {P : List Int} {B : List UInt8} (hs : spB P B.length = true) (at0 : Int) {s : Int} (hv : validB s = true) (g : Bool) (x : Int) (hf : fltK P 2 at0 s.toNat ≠ 0) : CStore P B at0 s g x [] [] (fltK P 2 at0 s.toNat) (fltA P 2 at0 s.toNat) 0 := fun w p pc q qc h =>
  (store_flt P p pc B q qc at0 s g x w h hs hv hf).mono fun _ w' ⟨h1, h2⟩ => ⟨_, h1, spNone _ w', h2⟩
theorem cStore_ok {P : List Int} {B : List UInt8} (hs : spB P B.length = true) (at0 : Int) {s : Int} (hv : validB s = true) (g : Bool) (x : Int) (hf : fltK P 2 at0 s.toNat = 0) : CStore P B at0 s g x P (wrL B at0 (btL x s.toNat) s.toNat) 0 0 0 := fun w p pc q qc h =>
  (store_ok P p pc B q qc at0 s g x w h hs hv hf).mono fun _ w' ⟨sq, sc, tq, tc, h1, h2, h3⟩ => ⟨_, h1, ⟨sq, sc, tq, tc, by rw [wrL_len], h2.in⟩, h3⟩
theorem sqNone (lo : Nat) (W : World) : SqVal lo W (.slice none 0 0) [] := ⟨none, 0, rfl, .inl rfl⟩
theorem cFetch_bad {P : List Int} {B : List UInt8} (hs : spB P B.length = false) (at0 n : Int) : CFetch P B at0 n [] 30 := fun w p pc q qc h =>
  (fetch_bad P p pc q B.length qc at0 n w h.perm hs).mono fun _ w' ⟨h1, h2⟩ => ⟨_, h1, sqNone _ w', h2⟩
theorem cFetch_arg {P : List Int} {B : List UInt8} (hs : spB P B.length = true) (at0 n : Int) (hn : n < 0 ∨ 2048 < n) : CFetch P B at0 n [] 1 := fun w p pc q qc h =>
  (fetch_arg P p pc q B.length qc at0 n w h.perm hs hn).mono fun _ w' ⟨h1, h2⟩ => ⟨_, h1, sqNone _ w', h2⟩
theorem cFetch_ok {P : List Int} {B : List UInt8} (hs : spB P B.length = true) (at0 : Int) {n : Int} {k : Nat} (hk : n = k) (hn : k ≤ 2048) : CFetch P B at0 n (rdL B at0 (goodA P 4 at0 k)) 0 := fun w p pc q qc h => by
  subst hk
  exact (fetch_ok P p pc B q qc at0 k w h hs hn).mono fun _ w' ⟨vp, vc, h1, h2, h3⟩ => ⟨_, h1, ⟨vp, vc, by rw [rdL_len], h2.in⟩, h3⟩
theorem cPeek_bad {P : List Int} {B : List UInt8} (hs : spB P B.length = false) (at0 n : Int) : CPeek P B at0 n [] 0 0 30 := fun w p pc q qc h =>
  (peek_bad P p pc q B.length qc at0 n w h.perm hs).mono fun _ w' ⟨h1, h2⟩ => ⟨_, h1, sqNone _ w', h2⟩
theorem cPeek_arg {P : List Int} {B : List UInt8} (hs : spB P B.length = true) (at0 n : Int) (hn : n < 0 ∨ 2048 < n) : CPeek P B at0 n [] 0 0 1 := fun w p pc q qc h =>
  (peek_arg P p pc q B.length qc at0 n w h.perm hs hn).mono fun _ w' ⟨h1, h2⟩ => ⟨_, h1, sqNone _ w', h2⟩
theorem cPeek_flt {P : List Int} {B : List UInt8} (hs : spB P B.length = true) (at0 : Int) {n : Int} {k : Nat} (hk : n = k) (hn : k ≤ 2048) (hf : fltK P 0 at0 k ≠ 0) : CPeek P B at0 n [] (fltK P 0 at0 k) (fltA P 0 at0 k) 0 := fun w p pc q qc h => by
  subst hk
  exact (peek_flt P p pc B q qc at0 k w h hs hn hf).mono fun _ w' ⟨h1, h2⟩ => ⟨_, h1, sqNone _ w', h2⟩
theorem cPeek_ok {P : List Int} {B : List UInt8} (hs : spB P B.length = true) (at0 : Int) {n : Int} {k : Nat} (hk : n = k) (hn : k ≤ 2048) (hf : fltK P 0 at0 k = 0) : CPeek P B at0 n (rdL B at0 k) 0 0 0 := fun w p pc q qc h => by
  subst hk
  exact (peek_ok P p pc B q qc at0 k w h hs hn hf).mono fun _ w' ⟨vp, vc, h1, h2, h3⟩ => ⟨_, h1, ⟨vp, vc, by rw [rdL_len], h2.in⟩, h3⟩
theorem cPoke_bad {P : List Int} {B : List UInt8} (hs : spB P B.length = false) (at0 : Int) (bs : List UInt8) : CPoke P B at0 bs [] [] 0 0 30 := fun w p pc q qc bq bc h _ _ =>
  (poke_bad P p pc q B.length qc at0 bq bs.length bc w h.perm hs).mono fun _ w' ⟨h1, h2⟩ => ⟨_, h1, spNone _ w', h2⟩
theorem cPoke_long {P : List Int} {B : List UInt8} (hs : spB P B.length = true) (at0 : Int) (bs : List UInt8) (hn : 2048 < bs.length) : CPoke P B at0 bs [] [] 0 0 2 := fun w p pc q qc bq bc h _ _ =>
  (poke_long P p pc q B.length qc at0 bq bs.length bc w h.perm hs (by omega)).mono fun _ w' ⟨h1, h2⟩ => ⟨_, h1, spNone _ w', h2⟩
theorem cPoke_flt {P : List Int} {B : List UInt8} (hs : spB P B.length = true) (at0 : Int) (bs : List UInt8) (hn : bs.length ≤ 2048) (hf : fltK P 0 at0 bs.length ≠ 0) : CPoke P B at0 bs [] [] (fltK P 0 at0 bs.length) (fltA P 0 at0 bs.length) 0 := fun w p pc q qc bq bc h h1 h2 =>
  (poke_flt P p pc B q qc at0 bs bq bc w h hs hn h1 h2 hf).mono fun _ w' ⟨h1, h2⟩ => ⟨_, h1, spNone _ w', h2⟩
theorem cPoke_ok {P : List Int} {B : List UInt8} (hs : spB P B.length = true) (at0 : Int) (bs : List UInt8) (hn : bs.length ≤ 2048) (hf : fltK P 0 at0 bs.length = 0) : CPoke P B at0 bs P (wrL B at0 bs bs.length) 0 0 0 := fun w p pc q qc bq bc h h1 h2 =>
  (poke_ok P p pc B q qc at0 bs bq bc w h hs hn h1 h2 hf).mono fun _ w' ⟨sq, sc, tq, tc, h1, h2, h3⟩ => ⟨_, h1, ⟨sq, sc, tq, tc, by rw [wrL_len], h2.in⟩, h3⟩
theorem cString_bad {P : List Int} {B : List UInt8} (hs : spB P B.length = false) (at0 n : Int) : CString P B at0 n [] 0 0 30 := fun w p pc q qc h => string_bad P p pc q B.length qc at0 n w h.perm hs
theorem cString_arg {P : List Int} {B : List UInt8} (hs : spB P B.length = true) (at0 n : Int) (hn : n < 0 ∨ 64 < n) : CString P B at0 n [] 0 0 1 := fun w p pc q qc h => string_arg P p pc q B.length qc at0 n w h.perm hs hn
theorem cString_flt {P : List Int} {B : List UInt8} (hs : spB P B.length = true) (at0 : Int) {n : Int} {k : Nat} (hk : n = k) (hn : k ≤ 64) (hf : sK P B at0 k ≠ 0) : CString P B at0 n [] (sK P B at0 k) (sA P B at0 k) 0 := fun w p pc q qc h => by
  subst hk
  exact string_flt P p pc B q qc at0 k w h hs hn hf
theorem cString_ok {P : List Int} {B : List UInt8} (hs : spB P B.length = true) (at0 : Int) {n : Int} {k : Nat} (hk : n = k) (hn : k ≤ 64) (hf : sK P B at0 k = 0) : CString P B at0 n (rdL B at0 (sG P B at0 k)) 0 0 0 := fun w p pc q qc h => by
  subst hk
  exact string_ok P p pc B q qc at0 k w h hs hn hf
theorem hpB_f {n : Nat} {k : Int} (h : k < 0 ∨ (n : Int) ≤ k) : hpB n k = false := by
  simp [hpB]; omega
theorem cSeal_bad {P : List Int} {B : List UInt8} (hs : spB P B.length = false) (k : Int) : CSeal P B k [] [] 30 := fun w p pc q qc h =>
  (seal_bad P p pc q B.length qc k w h.perm hs).mono fun _ w' ⟨h1, h2⟩ => ⟨_, h1, spNone _ w', h2⟩
theorem cSeal_page {P : List Int} {B : List UInt8} (hs : spB P B.length = true) {k : Int} (hk : k < 0 ∨ (P.length : Int) ≤ k) : CSeal P B k [] [] 31 := fun w p pc q qc h =>
  (seal_page P p pc q B.length qc k w h.perm hs (hpB_f hk)).mono fun _ w' ⟨h1, h2⟩ => ⟨_, h1, spNone _ w', h2⟩
theorem cSeal_ok {P : List Int} {B : List UInt8} (hs : spB P B.length = true) {n : Int} {k : Nat} (hn : n = k) (hk : k < P.length) : CSeal P B n (P.set k 4) B 0 := fun w p pc q qc h => by
  subst hn
  exact (seal_ok P p pc B q qc k w h hs hk).mono fun _ w' ⟨sq, sc, tq, tc, h1, h2, h3⟩ => ⟨_, h1, ⟨sq, sc, tq, tc, by rw [List.length_set], h2.in⟩, h3⟩
theorem cProt_bad {P : List Int} {B : List UInt8} (hs : spB P B.length = false) (k perm : Int) : CProt P B k perm [] [] 30 := fun w p pc q qc h =>
  (protect_bad P p pc q B.length qc k perm w h.perm hs).mono fun _ w' ⟨h1, h2⟩ => ⟨_, h1, spNone _ w', h2⟩
theorem cProt_page {P : List Int} {B : List UInt8} (hs : spB P B.length = true) {k : Int} (perm : Int) (hk : k < 0 ∨ (P.length : Int) ≤ k) : CProt P B k perm [] [] 31 := fun w p pc q qc h =>
  (protect_page P p pc q B.length qc k perm w h.perm hs (hpB_f hk)).mono fun _ w' ⟨h1, h2⟩ => ⟨_, h1, spNone _ w', h2⟩
theorem cProt_perm {P : List Int} {B : List UInt8} (hs : spB P B.length = true) {n : Int} {k : Nat} (hn : n = k) {perm : Int} (hk : k < P.length) (h4 : P[k] = 4 ∨ dpB perm = false) : CProt P B n perm [] [] 31 := fun w p pc q qc h => by
  subst hn
  exact (protect_perm P p pc q B.length qc k perm w h.perm hs hk h4).mono fun _ w' ⟨h1, h2⟩ => ⟨_, h1, spNone _ w', h2⟩
theorem cProt_ok {P : List Int} {B : List UInt8} (hs : spB P B.length = true) {n : Int} {k : Nat} (hn : n = k) {perm : Int} (hk : k < P.length) (h4 : P[k] ≠ 4) (hd : dpB perm = true) : CProt P B n perm (P.set k perm) B 0 := fun w p pc q qc h => by
  subst hn
  exact (protect_ok P p pc B q qc k perm w h hs hk h4 hd).mono fun _ w' ⟨sq, sc, tq, tc, h1, h2, h3⟩ => ⟨_, h1, ⟨sq, sc, tq, tc, by rw [List.length_set], h2.in⟩, h3⟩
theorem cNew_bad {n : Int} (hn : n < 0 ∨ 32 < n) : CNew n [] [] 1 := fun w => (new_bad n w hn).mono fun _ w' ⟨h1, h2⟩ => ⟨_, h1, spNone _ w', h2⟩
theorem cNew_ok {n : Int} {k : Nat} (hk : n = k) (hn : k ≤ 32) : CNew n (List.replicate k 0) (List.replicate (64 * k) 0) 0 := fun w => by
  subst hk
  exact (new_ok k w hn).mono fun _ w' ⟨sq, tq, h1, h2, h3⟩ => ⟨_, h1, ⟨sq, k, tq, 64 * k, by simp only [List.length_replicate], h2.in⟩, h3⟩
theorem cSame {P : List Int} (B : List UInt8) {P2 : List Int} (B2 : List UInt8) (l1 : P.length ≤ 4096) (l2 : P2.length ≤ 4096) : CSame P B P2 B2 (P == P2 && B == B2) := fun w p pc q qc p2 pc2 q2 qc2 h h2 =>
  same_any P p pc B q qc P2 p2 pc2 B2 q2 qc2 w h.perm h.byte h2.perm h2.byte l1 l2
end Go.Proofs.Ytnapbpfofpaakaa

namespace Go.Proofs.Ytnapbpfofpaakaa
set_option maxRecDepth 100000
open Go.ChangeShapes Go.WideShapes Go.ChangeAt Go.WideElems Go.RowKit Go.Joins

theorem Try.own' : ownKnob Try.prog.godebug = none := by kernel_rfl
theorem Try.laidOut' : laidOutB Try.prog = true := by kernel_rfl
theorem cells_Space : Try.prog.cellsOf 25 = 2 := by kernel_rfl
theorem types_Space : Try.prog.cellTypes Try.prog.depth 25 = some [22, 23] := by kernel_rfl
theorem cells_int1 : Try.prog.cellsOf 3 = 1 := by kernel_rfl
theorem cells_u81 : Try.prog.cellsOf 5 = 1 := by kernel_rfl
theorem add_lit' (b o j : Nat) : (⟨b, o, none⟩ : Addr).add j = ⟨b, o + j, none⟩ := by
  unfold Addr.add
  split
  · rename_i h; subst h; rfl
  · rfl

theorem has_of_cell {W : World} {t e : TypeId} (ht : Try.prog.underlying t = some (.slice e)) {base : Nat} {a : Addr} {n c : Nat} (h : Cell.okWide Try.prog W .any base t (.slice (some a) n c)) : ∃ b o, a = ⟨b, o, none⟩ ∧ b < W.heap.size := by
  simp only [Cell.okWide, Cell.ok, ht] at h
  obtain ⟨_, _, _, hs, row, cells, hsh, _⟩ := h
  obtain ⟨b, o, s⟩ := a
  dsimp only at hs hsh
  subst hs
  refine ⟨b, o, rfl, ?_⟩
  rcases Nat.lt_or_ge b W.heap.size with h' | h'
  · exact h'
  · simp [World.shape?, Array.getElem?_eq_none h'] at hsh
theorem ints_in {W : World} {b o : Nat} {n : Nat} {zs : List Int} (hb : b < W.heap.size) (h : ∀ i, i < zs.length → W.cell? ((⟨b, o, none⟩ : Addr).add i) = some (.int .i64 (zs.getD i 0))) : SeqIn 0 W.heap.size W (some ⟨b, o, none⟩) (iV (zs.take n)) := by
  refine .inr ⟨b, o, rfl, Nat.zero_le _, hb, fun j v hj => ?_⟩
  have hjl : j < (zs.take n).length := by
    have := (List.getElem?_eq_some_iff.1 hj).1
    simpa [iV] using this
  rw [iV_get _ j hjl] at hj
  have hz : j < zs.length := by simp at hjl; omega
  have := h j hz
  rw [add_lit'] at this
  rw [this, ← hj]
  simp [List.getD, hz]
/-- The bytes of numbers. -/
def byL (zs : List Int) : List UInt8 := zs.map fun z => UInt8.ofNat z.toNat
theorem bytes_in {W : World} {b o : Nat} {n : Nat} {zs : List Int} (hb : b < W.heap.size) (h : ∀ i, i < zs.length → W.cell? ((⟨b, o, none⟩ : Addr).add i) = some (.int .u8 (zs.getD i 0))) (hw : ∀ z ∈ zs, (Lit.int .u8 z).wf = true) : SeqIn 0 W.heap.size W (some ⟨b, o, none⟩) (bV (byL (zs.take n))) := by
  refine .inr ⟨b, o, rfl, Nat.zero_le _, hb, fun j v hj => ?_⟩
  have hjl : j < (byL (zs.take n)).length := by
    have := (List.getElem?_eq_some_iff.1 hj).1
    simpa [bV] using this
  rw [bV_get _ j hjl] at hj
  have hz : j < zs.length := by simp [byL] at hjl; omega
  have hc := h j hz
  have hwz := hw _ (List.getElem_mem hz)
  have h8 : 0 ≤ zs[j] ∧ zs[j] ≤ 255 := by simpa [Lit.wf, IntKind.min, IntKind.max, IntKind.signed, IntKind.bits] using hwz
  rw [add_lit'] at hc
  rw [hc, ← hj]
  simp [byL, List.getD, hz]
  omega
theorem open_Space {H : Type} {enc : TypeId × Value → H} {W : World} {base : Nat} {v : Value} {d : DataW H} {p : List MemPlace} (hv : Value.okWide Try.prog W .any base 25 v) (h : DataW.Trod enc Try.prog W 0 (fun _ => true) true 25 v d p) :
    ∃ P a pc B q qc, v = spV a P.length pc q B.length qc ∧ SpIn 0 W.heap.size W P a B q qc := by
  have hv' := hv
  simp only [Value.okWide, Try.underlying25] at hv'
  obtain ⟨cs, rfl, hsz, ts, hts, _, hcell⟩ := hv'
  rw [types_Space] at hts
  cases hts
  obtain ⟨c0, c1, y0, y1, m, e, _, _, hy0, hy1⟩ := open_agg2 Try.underlying25 (by kernel_rfl) cells_Space hv h
  injection e with e
  subst e
  obtain ⟨u0, e0, k0⟩ := hcell 0 c0 rfl
  obtain ⟨u1, e1, k1⟩ := hcell 1 c1 rfl
  cases e0; cases e1
  have A : ∃ P a pc, c0 = .slice a (List.length P) pc ∧ SeqIn 0 W.heap.size W a (iV P) ∧ (∀ b o, a = some ⟨b, o, none⟩ → b < W.heap.size) := by
    rcases open_ints Try.underlying22 Try.underlying3 cells_int1 hy0 with ⟨e, _⟩ | ⟨a, len, cap, zs, e, _, hl, _, hz, _, hc, _⟩
    · injection e with e
      exact ⟨[], none, 0, e, .inl rfl, fun _ _ e => by cases e⟩
    · injection e with e
      subst e
      obtain ⟨b, o, rfl, hb⟩ := has_of_cell Try.underlying22 k0
      simp at hz
      refine ⟨zs.take len, some ⟨b, o, none⟩, cap, by rw [List.length_take, hz, Nat.min_eq_left hl], ints_in hb hc, fun b' o' e => ?_⟩
      injection e with e; injection e with e1; omega
  have Bq : ∃ B q qc, c1 = .slice q (List.length B) qc ∧ SeqIn 0 W.heap.size W q (bV B) ∧ B.length ≤ qc := by
    rcases open_ints Try.underlying23 Try.underlying5 cells_u81 hy1 with ⟨e, _⟩ | ⟨a, len, cap, zs, e, _, hl, _, hz, _, hc, hw⟩
    · injection e with e
      exact ⟨[], none, 0, e, .inl rfl, Nat.le_refl _⟩
    · injection e with e
      subst e
      obtain ⟨b, o, rfl, hb⟩ := has_of_cell Try.underlying23 k1
      simp at hz
      have hlen : (byL (zs.take len)).length = len := by simp [byL, hz, hl]
      exact ⟨byL (zs.take len), some ⟨b, o, none⟩, cap, by rw [hlen], bytes_in hb hc hw, by omega⟩
  obtain ⟨P, a, pc, rfl, h1, h2⟩ := A
  obtain ⟨B, q, qc, rfl, h3, h4⟩ := Bq
  exact ⟨P, a, pc, B, q, qc, rfl, h1, h3, h2, h4⟩

theorem i64_wf {z : Int} (h : (Lit.int .i64 z).wf = true) : I64 z := by
  simpa [Lit.wf, IntKind.min, IntKind.max, IntKind.signed, IntKind.bits, I64] using h
theorem cells_Part : Try.prog.cellsOf 44 = 3 := by kernel_rfl
theorem open_Part {H : Type} {enc : TypeId × Value → H} {W : World} {base : Nat} {v : Value} {d : DataW H} {p : List MemPlace} (hv : Value.okWide Try.prog W .any base 44 v) (h : DataW.Trod enc Try.prog W 0 (fun _ => true) true 44 v d p) :
    ∃ a n m, v = .agg #[.int .i64 a, .int .i64 n, .int .i64 m] ∧ I64 a ∧ I64 n ∧ I64 m := by
  obtain ⟨c0, c1, c2, y0, y1, y2, k, rfl, _, _, h0, h1, h2⟩ := open_agg3 Try.underlying44 (by kernel_rfl) cells_Part hv h
  obtain ⟨a, e0, _, w0⟩ := DataW.trod_int Try.underlying2 h0
  obtain ⟨n, e1, _, w1⟩ := DataW.trod_int Try.underlying3 h1
  obtain ⟨m, e2, _, w2⟩ := DataW.trod_int Try.underlying3 h2
  simp at e0 e1 e2
  subst e0 e1 e2
  exact ⟨a, n, m, rfl, i64_wf w0, i64_wf w1, i64_wf w2⟩
theorem cells_Word : Try.prog.cellsOf 66 = 4 := by kernel_rfl
theorem cells_Int : Try.prog.cellsOf 64 = 2 := by kernel_rfl
theorem cells_i641 : Try.prog.cellsOf 2 = 1 := by kernel_rfl
theorem cells_bool1 : Try.prog.cellsOf 4 = 1 := by kernel_rfl
theorem trod_IntM {H : Type} {enc : TypeId × Value → H} {W : World} {c0 c1 : Value} {x : DataW H × List MemPlace} {m : Nat} (h : DataW.trod enc Try.prog W 0 (fun _ => true) true m 64 [c0, c1] = some x) : ∃ s g, c0 = .int .i64 s ∧ c1 = .bool g ∧ I64 s := by
  obtain ⟨y0, y1, k, _, _, h0, h1⟩ := trod_struct2 Try.underlying64 h
  obtain ⟨a, e0, _, w0⟩ := DataW.trod_int Try.underlying3 h0
  obtain ⟨b, e1, _⟩ := DataW.trod_bool Try.underlying4 h1
  simp [cells_int1] at e0
  simp [cells_bool1] at e1
  exact ⟨a, b, e0, e1, i64_wf w0⟩
theorem open_Word {H : Type} {enc : TypeId × Value → H} {W : World} {base : Nat} {v : Value} {d : DataW H} {p : List MemPlace} (hv : Value.okWide Try.prog W .any base 66 v) (h : DataW.Trod enc Try.prog W 0 (fun _ => true) true 66 v d p) :
    ∃ a s g x, v = .agg #[.int .i64 a, .int .i64 s, .bool g, .int .i64 x] ∧ I64 a ∧ I64 s ∧ I64 x := by
  obtain ⟨cs, rfl, hsz⟩ := okWide_struct Try.underlying66 hv
  rw [cells_Word] at hsz
  obtain ⟨c0, c1, c2, c3, rfl⟩ := array4 hsz
  obtain ⟨fuel, hf⟩ := h
  obtain ⟨ys, k, _, _, _, hlen, hel⟩ := DataW.trod_struct Try.underlying66 hf
  have h0 : DataW.trod enc Try.prog W 0 (fun _ => true) true k 2 (([c0, c1, c2, c3].drop 0).take (Try.prog.cellsOf 2)) = ys[0]? := hel 0 _ rfl
  have h1 : DataW.trod enc Try.prog W 0 (fun _ => true) true k 64 (([c0, c1, c2, c3].drop 1).take (Try.prog.cellsOf 64)) = ys[1]? := hel 1 _ rfl
  have h2 : DataW.trod enc Try.prog W 0 (fun _ => true) true k 2 (([c0, c1, c2, c3].drop 3).take (Try.prog.cellsOf 2)) = ys[2]? := hel 2 _ rfl
  rw [cells_i641] at h0 h2
  rw [cells_Int] at h1
  match ys, hlen with
  | [y0, y1, y2], _ =>
  obtain ⟨a, e0, _, w0⟩ := DataW.trod_int Try.underlying2 h0
  obtain ⟨x, e2, _, w2⟩ := DataW.trod_int Try.underlying2 h2
  obtain ⟨s, g, e1, e3, ws⟩ := trod_IntM h1
  simp at e0 e2
  subst e0 e1 e2 e3
  exact ⟨a, s, g, x, rfl, i64_wf w0, ws, i64_wf w2⟩
end Go.Proofs.Ytnapbpfofpaakaa
