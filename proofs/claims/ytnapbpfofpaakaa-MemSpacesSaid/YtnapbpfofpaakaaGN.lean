/-
  The reference of layer 3: With.
  The reference of layer 3: Store, Poke, Protect, Seal (made by genko.py).
  The law MemMoves (made by genkp.py).
  What the rows of layer 3's laws share, continued: an argument that is a slice of bytes, an array of two numbers of type int.
-/
import Derived.Test.YtnapbpfofpaakaaGL
import Derived.Laws.OwnMore
import Derived.Test.YtnapbpfofpaakaaGC
namespace Go.Proofs.Ytnapbpfofpaakaa
open Go.RowKit

theorem wrL_set (B : List UInt8) (at0 : Int) (bs : List UInt8) (k m : Nat) (hk : k < bs.length) (hm : adr at0 k = (m : Int)) : bV (wrL B at0 bs (k + 1)) = (bV (wrL B at0 bs k)).set m (.int .u8 (bs[k].toNat : Int)) := by
  show bV ((wrL B at0 bs k).set (adr at0 k).toNat (bs.getD k 0)) = _
  rw [hm]
  simp [bV, List.map_set, List.getD, hk]

set_option maxRecDepth 100000 in
set_option maxHeartbeats 4000000 in
theorem rwith_ok (P : List Int) (p : Option Addr) (pc : Nat) (B : List UInt8) (q : Option Addr) (qc : Nat) (at0 : Int) (bs : List UInt8) (bq : Option Addr) (bc : Nat) (w : World) (hP : SeqAt w p (iV P)) (hB : SeqAt w q (bV B)) (l1 : P.length ≤ 4096) (l2 : B.length ≤ 4096) (hbs : SeqAt w bq (bV bs)) (l3 : bs.length ≤ 2048) (hin : ∀ j : Nat, j < bs.length → 0 ≤ adr at0 j ∧ adr at0 j < B.length) :
    Calls Try.prog 69 #[spV p P.length pc q B.length qc, .int .i64 at0, .slice bq bs.length bc] w fun e w' => ∃ sq sc tq tc, e = .returned (spV sq P.length sc tq B.length tc) ∧ SpFar w.heap.size w' P sq (wrL B at0 bs bs.length) tq tc ∧ Below w.heap.size w w' := by
  have CC : ∀ W, Below w.heap.size w W → Calls Try.prog 51 #[spV p P.length pc q B.length qc] W fun e w' => ∃ sq sc tq tc, e = .returned (spV sq P.length sc tq B.length tc) ∧ w'.ownsRow W.heap.size 3 1 (.slice sq P.length sc) P.length (iV P) ∧ w'.ownsRow W.heap.size 5 1 (.slice tq B.length tc) B.length (bV B) ∧ (∀ g, (Value.slice sq P.length sc).ownBlock = some g → (Value.slice tq B.length tc).ownBlock ≠ some g) ∧ Below W.heap.size W w' := fun W g => rcopy_ok P p pc B q qc W (hP.up g) (hB.up g) l1 l2
  have HB : ∀ W, Below w.heap.size w W → SeqAt W bq (bV bs) := fun W g => hbs.up g
  have HL := Lib.hid HB
  have HI := Lib.hid hin
  have HO : ∀ b o, bs ≠ [] → bq = some ⟨b, o, none⟩ → b < w.heap.size := fun b o hne e => by
    obtain ⟨b', o', e', h⟩ := seqAt_neK hbs (by intro h; exact hne (by simpa [bV] using h))
    rw [e] at e'
    cases e'
    cases bs with
    | nil => exact absurd rfl hne
    | cons x xs => exact lt_of_cell (h 0 _ rfl)
  have HO := Lib.hid HO
  have hl3 : (bs.length : Int) ≤ 2048 := by omega
  have hlB : (B.length : Int) ≤ 4096 := by omega
  clear hP hB hbs HB hin
  go_enter Try.func69, Try.ntmps69
  go_wp2_with (go_at_call 51; (refine (CC _ (Gr.below (by repeat (first | (with_reducible exact Gr.refl _) | with_reducible refine Gr.alloc ?_ _ | with_reducible refine Gr.more ?_ _ _ | with_reducible refine Gr.setCell ?_ (by dsimp only; omega) _ | with_reducible refine Gr.drew ?_)))).mono ?_); rintro e w1 ⟨sq, sc, tq, tc, rfl, ho1, ho2, hne, hb⟩; have hb2 : Below w.heap.size w w1 := Below.trans (Gr.below (by repeat (first | (with_reducible exact Gr.refl _) | with_reducible refine Gr.alloc ?_ _ | with_reducible refine Gr.more ?_ _ _ | with_reducible refine Gr.setCell ?_ (by dsimp only; omega) _ | with_reducible refine Gr.drew ?_))) (hb.mono (by simp; omega)); have r0 : w1.cell? ⟨w.heap.size + 1, 0, none⟩ = some (.slice none 0 0) := (by rw [hb.cell (by simp)]; go_simp); have r1 : w1.cell? ⟨w.heap.size + 1, 1, none⟩ = some (.slice none 0 0) := (by rw [hb.cell (by simp)]; go_simp); have f0 : w1.frozen? ⟨w.heap.size + 1, 0, none⟩ = false := (by rw [hb.frozen (by simp)]; go_simp); have f1 : w1.frozen? ⟨w.heap.size + 1, 1, none⟩ = false := (by rw [hb.frozen (by simp)]; go_simp); have hz := hb.size; simp at hz; clear hb CC)
  simp only [World.size_alloc] at ho1 ho2
  have HG : Hid ((∀ g, (Value.slice sq P.length sc).ownBlock = some g → (Value.slice tq B.length tc).ownBlock ≠ some g) ∧ (∀ g, (Value.slice tq B.length tc).ownBlock = some g → w.heap.size + 2 ≤ g ∧ g < w1.heap.size) ∧ (∀ g, (Value.slice sq P.length sc).ownBlock = some g → g < w1.heap.size)) := Lib.hid ⟨hne, fun g h => ⟨(ho2.lt g h).1, (ho2.lt g h).2⟩, fun g h => (ho1.lt g h).2⟩
  clear hne
  have hz2 : w.heap.size + 2 ≤ w1.heap.size := by omega
  go_wp2_with fail
  go_loopw [8] (fun i wr => ∃ k : Nat, k ≤ bs.length ∧ i = .int .i64 (k : Int) ∧ wr.cell? ⟨w1.heap.size, 0, none⟩ = some (.slice sq P.length sc) ∧ wr.cell? ⟨w1.heap.size, 1, none⟩ = some (.slice tq B.length tc) ∧ wr.cell? ⟨w.heap.size + 1, 0, none⟩ = some (.slice none 0 0) ∧ wr.cell? ⟨w.heap.size + 1, 1, none⟩ = some (.slice none 0 0) ∧ wr.frozen? ⟨w.heap.size + 1, 0, none⟩ = false ∧ wr.frozen? ⟨w.heap.size + 1, 1, none⟩ = false ∧ wr.ownsRow (w.heap.size + 2) 3 1 (.slice sq P.length sc) P.length (iV P) ∧ wr.ownsRow (w.heap.size + 2) 5 1 (.slice tq B.length tc) B.length (bV (wrL B at0 bs k)) ∧ w1.heap.size < wr.heap.size ∧ Below w.heap.size w wr) (fun i _ => bs.length - (intOf i).toNat)
  case atStart => exact ⟨0, Nat.zero_le _, rfl, by go_simp, by go_simp, by go_simp, by go_simp, by go_simp, by go_simp, own_al ho1 _, own_al ho2 _, by simp, hb2.alloc (by omega) _⟩
  case round =>
    clear ho1 ho2 r0 r1 f0 f1 hb2
    obtain ⟨k, hk, rfl, c0, c1, r0, r1, f0, f1, ho1, ho2, hzr, hB⟩ := hrel
    by_cases hlt : k < bs.length
    · have hlt' : (k : Int) < (bs.length : Int) := by omega
      have hk0 : (0 : Int) ≤ (k : Int) := by omega
      have hw1 : wrap64 ((k : Int) + 1) = (k : Int) + 1 := by unfold wrap64; omega
      obtain ⟨m0, m1⟩ := HI.out k hlt
      obtain ⟨m, hm⟩ : ∃ m : Nat, adr at0 k = (m : Int) := ⟨(adr at0 k).toNat, by omega⟩
      rw [hm] at m0 m1
      have HE := Lib.hid (wrL_set B at0 bs k m hlt hm)
      have hm2 : IntKind.i64.wrap (at0 + (k : Int)) = (m : Int) := by rw [IntKind.wrap_i64]; unfold adr wrap64 at hm; omega
      have hm3 : wrap64 (at0 + (k : Int)) = (m : Int) := hm
      have hmB : m < B.length := by omega
      obtain ⟨g, cap, cur, hv, hbg, hgb, hcap⟩ := ho2.2.resolve_left (fun h => by omega)
      injection hv with hsq _ hsc
      subst hsq; subst hsc
      have hcell := ho2.cells (g := g) rfl m _ (bV_get _ m (by rw [wrL_len]; exact hmB))
      rw [Addr.add_lit, Nat.zero_add] at hcell
      have fk : wr.frozen? ⟨g, m, none⟩ = false := by simp [World.frozen?, hgb]
      obtain ⟨bb, bo, rfl, e2⟩ := seqAt_neK (HL.out wr hB) (by intro e; have := congrArg List.length e; rw [bV_len] at this; simp at this; rw [this] at hlt; simp at hlt)
      have d2 := e2 k _ (bV_get bs k hlt)
      have hbb : bb < w.heap.size := HO.out bb bo (by rintro rfl; simp at hlt) rfl
      obtain ⟨hg1, hg2⟩ := HG.out.2.1 g rfl
      have HST := Lib.hid (World.ownsRow.stored ho2 m (.int .u8 (bs[k].toNat : Int))).1
      have HS1 := Lib.hid (own_setG ho1 (fun g' h' e => by subst e; exact HG.out.1 _ h' rfl) m (.int .u8 (bs[k].toNat : Int)) (b := g))
      rw [← HE.out] at HST
      clear e2 hcap hgb hm HE ho1 ho2
      generalize (bs[k].toNat : Int) = x at *
      generalize Value.int .u8 ((wrL B at0 bs k)[m]'(by rw [wrL_len]; exact hmB)).toNat = y0 at *
      go_upto_region 5 with fail
      go_region_held3 (fun W' => W'.cell? ⟨w1.heap.size, 1, none⟩ = some (.slice (some ⟨g, 0, none⟩) B.length tc) ∧ W'.cell? ⟨bb, bo + k, none⟩ = some (.int .u8 x)) (exact ⟨by go_simp, by go_simp⟩) (fail)
      go_wp2_with fail
      go_roundw
      case rel => exact ⟨k + 1, hlt, by go_num, by go_simp, by go_simp, by go_simp, by go_simp, by go_simp, by go_simp, own_drew HS1.out, own_drew HST.out, by simpa using hzr, (hB.setCell (by dsimp only; omega) _).drew⟩
      case measure => simp [intOf]; omega
    · obtain rfl : k = bs.length := by omega
      have hge : ¬ (bs.length : Int) < (bs.length : Int) := by omega
      go_wp2_with fail
      refine bodyPost_ret (v := spV sq P.length sc tq B.length tc) (by simp [results, go_sem, *]) rfl ?_
      exact ⟨sq, sc, tq, tc, rfl, (SpFar.of_own (own_setN (own_setN ho1 (by omega) _ _) (by omega) _ _) (by rw [wrL_len]; exact own_setN (own_setN ho2 (by omega) _ _) (by omega) _ _)).lower (by omega), (hB.setCell (by dsimp only; omega) _).setCell (by dsimp only; omega) _⟩
end Go.Proofs.Ytnapbpfofpaakaa

namespace Go.Proofs.Ytnapbpfofpaakaa
open Go.RowKit

/-- What a call answers: a space, a fault, an error. -/
def SpAns (w : World) (P' : List Int) (B' : List UInt8) (K A E : Int) (e : Ending) (w' : World) : Prop := ∃ sq sc tq tc, e = .returned (.agg #[.slice sq P'.length sc, .slice tq B'.length tc, .int .i64 K, .int .i64 A, .int .i64 E]) ∧ SpFar w.heap.size w' P' sq B' tq tc ∧ Below w.heap.size w w'
section
variable (P : List Int) (B : List UInt8)
def RStore (at0 s : Int) (g : Bool) (x : Int) (P' : List Int) (B' : List UInt8) (K A E : Int) : Prop := ∀ w p pc q qc, SpAt w P p B q qc → Calls Try.prog 37 #[spV p P.length pc q B.length qc, .int .i64 at0, tyV s g, .int .i64 x] w (SpAns w P' B' K A E)
def RPoke (at0 : Int) (bs : List UInt8) (P' : List Int) (B' : List UInt8) (K A E : Int) : Prop := ∀ w p pc q qc bq bc, SpAt w P p B q qc → SeqAt w bq (bV bs) → Calls Try.prog 38 #[spV p P.length pc q B.length qc, .int .i64 at0, .slice bq bs.length bc] w (SpAns w P' B' K A E)
def RSeal (k : Int) (P' : List Int) (B' : List UInt8) (E : Int) : Prop := ∀ w p pc q qc, SpAt w P p B q qc → Calls Try.prog 20 #[spV p P.length pc q B.length qc, .int .i64 k] w (SpAns w P' B' 0 0 E)
def RProt (k perm : Int) (P' : List Int) (B' : List UInt8) (E : Int) : Prop := ∀ w p pc q qc, SpAt w P p B q qc → Calls Try.prog 19 #[spV p P.length pc q B.length qc, .int .i64 k, .int .i64 perm] w (SpAns w P' B' 0 0 E)
end
theorem spaNone {w w' : World} {K A E : Int} (hb : Below w.heap.size w w') : SpAns w [] [] K A E (.returned (.agg #[.slice none 0 0, .slice none 0 0, .int .i64 K, .int .i64 A, .int .i64 E])) w' :=
  ⟨none, 0, none, 0, rfl, ⟨.inl rfl, .inl rfl, (fun _ _ e => by cases e), Nat.le_refl _⟩, hb⟩

set_option maxRecDepth 100000 in
set_option maxHeartbeats 2000000 in
theorem rStore_bad {P : List Int} {B : List UInt8} (hs : spB P B.length = false) (at0 s : Int) (g : Bool) (x : Int) : RStore P B at0 s g x [] [] 0 0 30 := by
  intro w p pc q qc h
  have C1 : ∀ W, Below w.heap.size w W → Calls Try.prog 22 #[spV p P.length pc q B.length qc] W fun e w' => e = .returned (.int .i64 (spE P B.length)) ∧ Below W.heap.size W w' := fun W g => rcheck3_any P p pc q B.length qc W (h.perm.up g)
  rw [spE_bad hs] at C1
  clear h hs
  go_enter Try.func37, Try.ntmps37
  go_wp2_with (go_at_call 22; (refine (C1 _ (Gr.below (by repeat (first | (with_reducible exact Gr.refl _) | with_reducible refine Gr.alloc ?_ _ | with_reducible refine Gr.more ?_ _ _ | with_reducible refine Gr.setCell ?_ (by dsimp only; omega) _ | with_reducible refine Gr.drew ?_)))).mono ?_); rintro e w1 ⟨rfl, hb⟩; obtain ⟨os, n', rfl⟩ := Below.moreE hb; clear hb)
  refine bodyPost_ret (v := .agg #[.slice none 0 0, .slice none 0 0, .int .i64 0, .int .i64 0, .int .i64 30]) (by simp [results, go_sem, *]) rfl ?_
  exact spaNone (Gr.below (by repeat (first | (with_reducible exact Gr.refl _) | with_reducible refine Gr.alloc ?_ _ | with_reducible refine Gr.more ?_ _ _ | with_reducible refine Gr.setCell ?_ (by dsimp only; omega) _ | with_reducible refine Gr.drew ?_)))

set_option maxRecDepth 100000 in
set_option maxHeartbeats 2000000 in
theorem rStore_type {P : List Int} {B : List UInt8} (hs : spB P B.length = true) (at0 : Int) {s : Int} (hv : validB s = false) (g : Bool) (x : Int) : RStore P B at0 s g x [] [] 0 0 10 := by
  intro w p pc q qc h
  have C1 : ∀ W, Below w.heap.size w W → Calls Try.prog 22 #[spV p P.length pc q B.length qc] W fun e w' => e = .returned (.int .i64 (spE P B.length)) ∧ Below W.heap.size W w' := fun W g => rcheck3_any P p pc q B.length qc W (h.perm.up g)
  rw [spE_ok hs] at C1
  have T1 : ∀ W, Below w.heap.size w W → Calls Try.prog 45 #[tyV s g] W fun e w' => e = .returned (.int .i64 (eT s)) ∧ Below W.heap.size W w' := fun W _ => rcheck_any s g W
  rw [eT_bad hv] at T1
  clear h hs hv
  go_enter Try.func37, Try.ntmps37
  go_wp2_with first | (go_at_call 22; (refine (C1 _ (Gr.below (by repeat (first | (with_reducible exact Gr.refl _) | with_reducible refine Gr.alloc ?_ _ | with_reducible refine Gr.more ?_ _ _ | with_reducible refine Gr.setCell ?_ (by dsimp only; omega) _ | with_reducible refine Gr.drew ?_)))).mono ?_); rintro e w1 ⟨rfl, hb⟩; obtain ⟨os, n', rfl⟩ := Below.moreE hb; clear hb) | (go_at_call 45; (refine (T1 _ (Gr.below (by repeat (first | (with_reducible exact Gr.refl _) | with_reducible refine Gr.alloc ?_ _ | with_reducible refine Gr.more ?_ _ _ | with_reducible refine Gr.setCell ?_ (by dsimp only; omega) _ | with_reducible refine Gr.drew ?_)))).mono ?_); rintro e w1 ⟨rfl, hb⟩; obtain ⟨os, n', rfl⟩ := Below.moreE hb; clear hb)
  refine bodyPost_ret (v := .agg #[.slice none 0 0, .slice none 0 0, .int .i64 0, .int .i64 0, .int .i64 10]) (by simp [results, go_sem, *]) rfl ?_
  exact spaNone (Gr.below (by repeat (first | (with_reducible exact Gr.refl _) | with_reducible refine Gr.alloc ?_ _ | with_reducible refine Gr.more ?_ _ _ | with_reducible refine Gr.setCell ?_ (by dsimp only; omega) _ | with_reducible refine Gr.drew ?_)))

set_option maxRecDepth 100000 in
set_option maxHeartbeats 2000000 in
theorem rStore_flt {P : List Int} {B : List UInt8} (hs : spB P B.length = true) (at0 : Int) {s : Int} (hv : validB s = true) (g : Bool) (x : Int) (hf : fltK P 2 at0 s.toNat ≠ 0) : RStore P B at0 s g x [] [] (fltK P 2 at0 s.toNat) (fltA P 2 at0 s.toNat) 0 := by
  intro w p pc q qc h
  have h8 : 1 ≤ s ∧ s ≤ 8 := by rcases (valid_iff s).1 hv with rfl | rfl | rfl | rfl <;> omega
  obtain ⟨k, rfl⟩ : ∃ k : Nat, s = (k : Int) := ⟨s.toNat, by omega⟩
  have hn : k ≤ 2048 := by omega
  rw [Int.toNat_natCast] at *
  have C1 : ∀ W, Below w.heap.size w W → Calls Try.prog 22 #[spV p P.length pc q B.length qc] W fun e w' => e = .returned (.int .i64 (spE P B.length)) ∧ Below W.heap.size W w' := fun W g => rcheck3_any P p pc q B.length qc W (h.perm.up g)
  rw [spE_ok hs] at C1
  have T1 : ∀ W, Below w.heap.size w W → Calls Try.prog 45 #[tyV k g] W fun e w' => e = .returned (.int .i64 (eT k)) ∧ Below W.heap.size W w' := fun W _ => rcheck_any k g W
  have FF : ∀ W, Below w.heap.size w W → Calls Try.prog 61 #[spV p P.length pc q B.length qc, .int .i64 at0, .int .i64 (k : Int), .int .i64 2] W fun e w' => e = .returned (ftV (fltK P 2 at0 k) (fltA P 2 at0 k)) ∧ Below W.heap.size W w' := fun W g => rfault_any P p pc B q qc at0 k 2 (by decide) W (h.perm.up g) hs hn
  rw [eT_ok hv] at T1
  generalize fltK P 2 at0 k = K at *
  generalize fltA P 2 at0 k = A at *
  have hf' : (K != 0) = true := bne_iff_ne.2 hf
  clear h hs hv hf hn h8
  go_enter Try.func37, Try.ntmps37
  go_wp2_with first | (go_at_call 22; (refine (C1 _ (Gr.below (by repeat (first | (with_reducible exact Gr.refl _) | with_reducible refine Gr.alloc ?_ _ | with_reducible refine Gr.more ?_ _ _ | with_reducible refine Gr.setCell ?_ (by dsimp only; omega) _ | with_reducible refine Gr.drew ?_)))).mono ?_); rintro e w1 ⟨rfl, hb⟩; obtain ⟨os, n', rfl⟩ := Below.moreE hb; clear hb) | (go_at_call 45; (refine (T1 _ (Gr.below (by repeat (first | (with_reducible exact Gr.refl _) | with_reducible refine Gr.alloc ?_ _ | with_reducible refine Gr.more ?_ _ _ | with_reducible refine Gr.setCell ?_ (by dsimp only; omega) _ | with_reducible refine Gr.drew ?_)))).mono ?_); rintro e w1 ⟨rfl, hb⟩; obtain ⟨os, n', rfl⟩ := Below.moreE hb; clear hb) | (go_at_call 61; (refine (FF _ (Gr.below (by repeat (first | (with_reducible exact Gr.refl _) | with_reducible refine Gr.alloc ?_ _ | with_reducible refine Gr.more ?_ _ _ | with_reducible refine Gr.setCell ?_ (by dsimp only; omega) _ | with_reducible refine Gr.drew ?_)))).mono ?_); rintro e w1 ⟨rfl, hb⟩; obtain ⟨os, n', rfl⟩ := Below.moreE hb; clear hb)
  refine bodyPost_ret (v := .agg #[.slice none 0 0, .slice none 0 0, .int .i64 K, .int .i64 A, .int .i64 0]) (by simp [results, go_sem, *]) rfl ?_
  exact spaNone (Gr.below (by repeat (first | (with_reducible exact Gr.refl _) | with_reducible refine Gr.alloc ?_ _ | with_reducible refine Gr.more ?_ _ _ | with_reducible refine Gr.setCell ?_ (by dsimp only; omega) _ | with_reducible refine Gr.drew ?_)))

set_option maxRecDepth 100000 in
set_option maxHeartbeats 2000000 in
theorem rStore_ok {P : List Int} {B : List UInt8} (hs : spB P B.length = true) (at0 : Int) {s : Int} (hv : validB s = true) (g : Bool) (x : Int) (hx : I64 x) (hf : fltK P 2 at0 s.toNat = 0) : RStore P B at0 s g x P (wrL B at0 (btL x s.toNat) s.toNat) 0 0 0 := by
  intro w p pc q qc h
  have h8 : 1 ≤ s ∧ s ≤ 8 := by rcases (valid_iff s).1 hv with rfl | rfl | rfl | rfl <;> omega
  obtain ⟨k, rfl⟩ : ∃ k : Nat, s = (k : Int) := ⟨s.toNat, by omega⟩
  have hn : k ≤ 2048 := by omega
  rw [Int.toNat_natCast] at *
  have C1 : ∀ W, Below w.heap.size w W → Calls Try.prog 22 #[spV p P.length pc q B.length qc] W fun e w' => e = .returned (.int .i64 (spE P B.length)) ∧ Below W.heap.size W w' := fun W g => rcheck3_any P p pc q B.length qc W (h.perm.up g)
  rw [spE_ok hs] at C1
  have T1 : ∀ W, Below w.heap.size w W → Calls Try.prog 45 #[tyV k g] W fun e w' => e = .returned (.int .i64 (eT k)) ∧ Below W.heap.size W w' := fun W _ => rcheck_any k g W
  have FF : ∀ W, Below w.heap.size w W → Calls Try.prog 61 #[spV p P.length pc q B.length qc, .int .i64 at0, .int .i64 (k : Int), .int .i64 2] W fun e w' => e = .returned (ftV (fltK P 2 at0 k) (fltA P 2 at0 k)) ∧ Below W.heap.size W w' := fun W g => rfault_any P p pc B q qc at0 k 2 (by decide) W (h.perm.up g) hs hn
  have hbl : (btL x k).length = k := by simp [btL]
  have BY : ∀ W, Below w.heap.size w W → Calls Try.prog 68 #[tyV k g, .int .i64 x] W fun e w' => ∃ b cap, e = .returned (.tuple #[.slice (some ⟨b, 0, none⟩) (btL x k).length cap, .int .i64 0]) ∧ BS w' b (btL x k) ∧ Below W.heap.size W w' := fun W _ => (rbytes_ok hv g x hx W).mono fun e w' ⟨b, cap, h1, _, h3, h4⟩ => by
    rw [Int.toNat_natCast] at h1 h3
    exact ⟨b, cap, by rw [hbl]; exact h1, h3, h4⟩
  have hlen := wrL_len B at0 (btL x k) (btL x k).length
  have WW : ∀ W b cap, Below w.heap.size w W → BS W b (btL x k) → Calls Try.prog 69 #[spV p P.length pc q B.length qc, .int .i64 at0, .slice (some ⟨b, 0, none⟩) (btL x k).length cap] W fun e w' => ∃ sq sc tq tc, e = .returned (spV sq P.length sc tq B.length tc) ∧ SpFar W.heap.size w' P sq (wrL B at0 (btL x k) k) tq tc ∧ Below W.heap.size W w' := fun W b cap g2 hbs => by
    have hsl := spB_len hs
    have := rwith_ok P p pc B q qc at0 (btL x k) (some ⟨b, 0, none⟩) cap W (h.perm.up g2) (h.byte.up g2) (by omega) (by omega) hbs.seq (by omega) (fun j hj => by have := kind_in (flt_zero_iff.1 hf j (by omega)); omega)
    have e1 : wrL B at0 (btL x k) (btL x k).length = wrL B at0 (btL x k) k := by rw [hbl]
    rw [e1] at this
    exact this
  have hl2 : (wrL B at0 (btL x k) k).length = B.length := wrL_len _ _ _ _
  unfold SpAns
  rw [hl2]
  rw [eT_ok hv] at T1
  rw [hf, fltA_zero hf] at FF
  generalize wrL B at0 (btL x k) k = B' at *
  generalize btL x k = X at *
  clear h hs hv hf hn h8 hbl hlen hl2
  go_enter Try.func37, Try.ntmps37
  go_wp2_with first | (go_at_call 22; (refine (C1 _ (Gr.below (by repeat (first | (with_reducible exact Gr.refl _) | with_reducible refine Gr.alloc ?_ _ | with_reducible refine Gr.more ?_ _ _ | with_reducible refine Gr.setCell ?_ (by dsimp only; omega) _ | with_reducible refine Gr.drew ?_)))).mono ?_); rintro e w1 ⟨rfl, hb⟩; obtain ⟨os, n', rfl⟩ := Below.moreE hb; clear hb) | (go_at_call 45; (refine (T1 _ (Gr.below (by repeat (first | (with_reducible exact Gr.refl _) | with_reducible refine Gr.alloc ?_ _ | with_reducible refine Gr.more ?_ _ _ | with_reducible refine Gr.setCell ?_ (by dsimp only; omega) _ | with_reducible refine Gr.drew ?_)))).mono ?_); rintro e w1 ⟨rfl, hb⟩; obtain ⟨os, n', rfl⟩ := Below.moreE hb; clear hb) | (go_at_call 61; (refine (FF _ (Gr.below (by repeat (first | (with_reducible exact Gr.refl _) | with_reducible refine Gr.alloc ?_ _ | with_reducible refine Gr.more ?_ _ _ | with_reducible refine Gr.setCell ?_ (by dsimp only; omega) _ | with_reducible refine Gr.drew ?_)))).mono ?_); rintro e w1 ⟨rfl, hb⟩; obtain ⟨os, n', rfl⟩ := Below.moreE hb; clear hb) | (go_at_call 68; (refine (BY _ (Gr.below (by repeat (first | (with_reducible exact Gr.refl _) | with_reducible refine Gr.alloc ?_ _ | with_reducible refine Gr.more ?_ _ _ | with_reducible refine Gr.setCell ?_ (by dsimp only; omega) _ | with_reducible refine Gr.drew ?_)))).mono ?_); rintro e w1 ⟨b, cap, rfl, hbs, hb⟩; obtain ⟨os, n', rfl⟩ := Below.moreE hb; clear hb; (try simp only [World.more_more, World.more_drew, Array.append_assoc] at hbs)) | (go_at_call 69; (refine (WW _ _ _ (Gr.below (by repeat (first | (with_reducible exact Gr.refl _) | with_reducible refine Gr.alloc ?_ _ | with_reducible refine Gr.more ?_ _ _ | with_reducible refine Gr.setCell ?_ (by dsimp only; omega) _ | with_reducible refine Gr.drew ?_))) (hbs.up (by repeat (first | (with_reducible exact Gr.refl _) | with_reducible refine Gr.alloc ?_ _ | with_reducible refine Gr.more ?_ _ _ | with_reducible refine Gr.setCell ?_ (by dsimp only; (try simp only [World.size_more, World.size_alloc, World.size_setCell, World.size_drew, Array.size_append]); omega) _ | with_reducible refine Gr.drew ?_)))).mono ?_); rintro e w1 ⟨sq, sc, tq, tc, rfl, hv, hb⟩; obtain ⟨oz, zz, rfl⟩ := Below.moreE hb; clear hb; (try simp only [World.more_more, World.more_drew, Array.append_assoc] at hv))
  refine bodyPost_ret (v := .agg #[.slice sq (List.length P) sc, .slice tq (List.length B) tc, .int .i64 0, .int .i64 0, .int .i64 0]) (by simp [results, go_sem, *]) rfl ?_
  exact ⟨sq, sc, tq, tc, rfl, (hv.of (fun hv => by repeat (first | (with_reducible exact hv) | with_reducible refine SpFar.alloc ?_ _ | with_reducible refine SpFar.more ?_ _ _ | with_reducible refine SpFar.set ?_ (by dsimp only; (try simp only [World.size_more, World.size_alloc, World.size_setCell, World.size_drew, Array.size_append]); omega) _ | with_reducible refine SpFar.drew ?_)) (by (try simp only [World.size_more, World.size_alloc, World.size_setCell, World.size_drew, Array.size_append]); omega)), (Gr.below (by repeat (first | (with_reducible exact Gr.refl _) | with_reducible refine Gr.alloc ?_ _ | with_reducible refine Gr.more ?_ _ _ | with_reducible refine Gr.setCell ?_ (by dsimp only; omega) _ | with_reducible refine Gr.drew ?_)))⟩

set_option maxRecDepth 100000 in
set_option maxHeartbeats 2000000 in
theorem rPoke_bad {P : List Int} {B : List UInt8} (hs : spB P B.length = false) (at0 : Int) (bs : List UInt8) : RPoke P B at0 bs [] [] 0 0 30 := by
  intro w p pc q qc bq bc h hbs
  have C1 : ∀ W, Below w.heap.size w W → Calls Try.prog 22 #[spV p P.length pc q B.length qc] W fun e w' => e = .returned (.int .i64 (spE P B.length)) ∧ Below W.heap.size W w' := fun W g => rcheck3_any P p pc q B.length qc W (h.perm.up g)
  rw [spE_bad hs] at C1
  clear h hs hbs
  go_enter Try.func38, Try.ntmps38
  go_wp2_with (go_at_call 22; (refine (C1 _ (Gr.below (by repeat (first | (with_reducible exact Gr.refl _) | with_reducible refine Gr.alloc ?_ _ | with_reducible refine Gr.more ?_ _ _ | with_reducible refine Gr.setCell ?_ (by dsimp only; omega) _ | with_reducible refine Gr.drew ?_)))).mono ?_); rintro e w1 ⟨rfl, hb⟩; obtain ⟨os, n', rfl⟩ := Below.moreE hb; clear hb)
  refine bodyPost_ret (v := .agg #[.slice none 0 0, .slice none 0 0, .int .i64 0, .int .i64 0, .int .i64 30]) (by simp [results, go_sem, *]) rfl ?_
  exact spaNone (Gr.below (by repeat (first | (with_reducible exact Gr.refl _) | with_reducible refine Gr.alloc ?_ _ | with_reducible refine Gr.more ?_ _ _ | with_reducible refine Gr.setCell ?_ (by dsimp only; omega) _ | with_reducible refine Gr.drew ?_)))

set_option maxRecDepth 100000 in
set_option maxHeartbeats 2000000 in
theorem rPoke_long {P : List Int} {B : List UInt8} (hs : spB P B.length = true) (at0 : Int) (bs : List UInt8) (hn : 2048 < bs.length) : RPoke P B at0 bs [] [] 0 0 2 := by
  intro w p pc q qc bq bc h hbs
  have C1 : ∀ W, Below w.heap.size w W → Calls Try.prog 22 #[spV p P.length pc q B.length qc] W fun e w' => e = .returned (.int .i64 (spE P B.length)) ∧ Below W.heap.size W w' := fun W g => rcheck3_any P p pc q B.length qc W (h.perm.up g)
  rw [spE_ok hs] at C1
  have hl : (2048 : Int) < (bs.length : Int) := by omega
  clear h hs hbs hn
  go_enter Try.func38, Try.ntmps38
  go_wp2_with (go_at_call 22; (refine (C1 _ (Gr.below (by repeat (first | (with_reducible exact Gr.refl _) | with_reducible refine Gr.alloc ?_ _ | with_reducible refine Gr.more ?_ _ _ | with_reducible refine Gr.setCell ?_ (by dsimp only; omega) _ | with_reducible refine Gr.drew ?_)))).mono ?_); rintro e w1 ⟨rfl, hb⟩; obtain ⟨os, n', rfl⟩ := Below.moreE hb; clear hb)
  refine bodyPost_ret (v := .agg #[.slice none 0 0, .slice none 0 0, .int .i64 0, .int .i64 0, .int .i64 2]) (by simp [results, go_sem, *]) rfl ?_
  exact spaNone (Gr.below (by repeat (first | (with_reducible exact Gr.refl _) | with_reducible refine Gr.alloc ?_ _ | with_reducible refine Gr.more ?_ _ _ | with_reducible refine Gr.setCell ?_ (by dsimp only; omega) _ | with_reducible refine Gr.drew ?_)))

set_option maxRecDepth 100000 in
set_option maxHeartbeats 2000000 in
theorem rPoke_flt {P : List Int} {B : List UInt8} (hs : spB P B.length = true) (at0 : Int) (bs : List UInt8) (hn : bs.length ≤ 2048) (hf : fltK P 0 at0 bs.length ≠ 0) : RPoke P B at0 bs [] [] (fltK P 0 at0 bs.length) (fltA P 0 at0 bs.length) 0 := by
  intro w p pc q qc bq bc h hbs
  have C1 : ∀ W, Below w.heap.size w W → Calls Try.prog 22 #[spV p P.length pc q B.length qc] W fun e w' => e = .returned (.int .i64 (spE P B.length)) ∧ Below W.heap.size W w' := fun W g => rcheck3_any P p pc q B.length qc W (h.perm.up g)
  rw [spE_ok hs] at C1
  have FF : ∀ W, Below w.heap.size w W → Calls Try.prog 61 #[spV p P.length pc q B.length qc, .int .i64 at0, .int .i64 (bs.length : Int), .int .i64 0] W fun e w' => e = .returned (ftV (fltK P 0 at0 bs.length) (fltA P 0 at0 bs.length)) ∧ Below W.heap.size W w' := fun W g => rfault_any P p pc B q qc at0 bs.length 0 (by decide) W (h.perm.up g) hs hn
  generalize fltK P 0 at0 bs.length = K at *
  generalize fltA P 0 at0 bs.length = A at *
  have hf' : (K != 0) = true := bne_iff_ne.2 hf
  have hl : ¬ (2048 : Int) < (bs.length : Int) := by omega
  clear h hs hbs hf hn
  go_enter Try.func38, Try.ntmps38
  go_wp2_with first | (go_at_call 22; (refine (C1 _ (Gr.below (by repeat (first | (with_reducible exact Gr.refl _) | with_reducible refine Gr.alloc ?_ _ | with_reducible refine Gr.more ?_ _ _ | with_reducible refine Gr.setCell ?_ (by dsimp only; omega) _ | with_reducible refine Gr.drew ?_)))).mono ?_); rintro e w1 ⟨rfl, hb⟩; obtain ⟨os, n', rfl⟩ := Below.moreE hb; clear hb) | (go_at_call 61; (refine (FF _ (Gr.below (by repeat (first | (with_reducible exact Gr.refl _) | with_reducible refine Gr.alloc ?_ _ | with_reducible refine Gr.more ?_ _ _ | with_reducible refine Gr.setCell ?_ (by dsimp only; omega) _ | with_reducible refine Gr.drew ?_)))).mono ?_); rintro e w1 ⟨rfl, hb⟩; obtain ⟨os, n', rfl⟩ := Below.moreE hb; clear hb)
  refine bodyPost_ret (v := .agg #[.slice none 0 0, .slice none 0 0, .int .i64 K, .int .i64 A, .int .i64 0]) (by simp [results, go_sem, *]) rfl ?_
  exact spaNone (Gr.below (by repeat (first | (with_reducible exact Gr.refl _) | with_reducible refine Gr.alloc ?_ _ | with_reducible refine Gr.more ?_ _ _ | with_reducible refine Gr.setCell ?_ (by dsimp only; omega) _ | with_reducible refine Gr.drew ?_)))

set_option maxRecDepth 100000 in
set_option maxHeartbeats 2000000 in
theorem rPoke_ok {P : List Int} {B : List UInt8} (hs : spB P B.length = true) (at0 : Int) (bs : List UInt8) (hn : bs.length ≤ 2048) (hf : fltK P 0 at0 bs.length = 0) : RPoke P B at0 bs P (wrL B at0 bs bs.length) 0 0 0 := by
  intro w p pc q qc bq bc h hbs
  have C1 : ∀ W, Below w.heap.size w W → Calls Try.prog 22 #[spV p P.length pc q B.length qc] W fun e w' => e = .returned (.int .i64 (spE P B.length)) ∧ Below W.heap.size W w' := fun W g => rcheck3_any P p pc q B.length qc W (h.perm.up g)
  rw [spE_ok hs] at C1
  have FF : ∀ W, Below w.heap.size w W → Calls Try.prog 61 #[spV p P.length pc q B.length qc, .int .i64 at0, .int .i64 (bs.length : Int), .int .i64 0] W fun e w' => e = .returned (ftV (fltK P 0 at0 bs.length) (fltA P 0 at0 bs.length)) ∧ Below W.heap.size W w' := fun W g => rfault_any P p pc B q qc at0 bs.length 0 (by decide) W (h.perm.up g) hs hn
  have WW : ∀ W, Below w.heap.size w W → Calls Try.prog 69 #[spV p P.length pc q B.length qc, .int .i64 at0, .slice bq bs.length bc] W fun e w' => ∃ sq sc tq tc, e = .returned (spV sq P.length sc tq B.length tc) ∧ SpFar W.heap.size w' P sq (wrL B at0 bs bs.length) tq tc ∧ Below W.heap.size W w' := fun W g2 => by
    have hsl := spB_len hs
    exact rwith_ok P p pc B q qc at0 bs bq bc W (h.perm.up g2) (h.byte.up g2) (by omega) (by omega) (hbs.up g2) hn (fun j hj => by have := kind_in (flt_zero_iff.1 hf j hj); omega)
  have hl2 : (wrL B at0 bs bs.length).length = B.length := wrL_len _ _ _ _
  unfold SpAns
  rw [hl2]
  rw [hf, fltA_zero hf] at FF
  generalize wrL B at0 bs bs.length = B' at *
  have hl : ¬ (2048 : Int) < (bs.length : Int) := by omega
  clear h hs hbs hf hn hl2
  go_enter Try.func38, Try.ntmps38
  go_wp2_with first | (go_at_call 22; (refine (C1 _ (Gr.below (by repeat (first | (with_reducible exact Gr.refl _) | with_reducible refine Gr.alloc ?_ _ | with_reducible refine Gr.more ?_ _ _ | with_reducible refine Gr.setCell ?_ (by dsimp only; omega) _ | with_reducible refine Gr.drew ?_)))).mono ?_); rintro e w1 ⟨rfl, hb⟩; obtain ⟨os, n', rfl⟩ := Below.moreE hb; clear hb) | (go_at_call 61; (refine (FF _ (Gr.below (by repeat (first | (with_reducible exact Gr.refl _) | with_reducible refine Gr.alloc ?_ _ | with_reducible refine Gr.more ?_ _ _ | with_reducible refine Gr.setCell ?_ (by dsimp only; omega) _ | with_reducible refine Gr.drew ?_)))).mono ?_); rintro e w1 ⟨rfl, hb⟩; obtain ⟨os, n', rfl⟩ := Below.moreE hb; clear hb) | (go_at_call 69; (refine (WW _ (Gr.below (by repeat (first | (with_reducible exact Gr.refl _) | with_reducible refine Gr.alloc ?_ _ | with_reducible refine Gr.more ?_ _ _ | with_reducible refine Gr.setCell ?_ (by dsimp only; omega) _ | with_reducible refine Gr.drew ?_)))).mono ?_); rintro e w1 ⟨sq, sc, tq, tc, rfl, hv, hb⟩; obtain ⟨oz, zz, rfl⟩ := Below.moreE hb; clear hb; (try simp only [World.more_more, World.more_drew, Array.append_assoc] at hv))
  refine bodyPost_ret (v := .agg #[.slice sq (List.length P) sc, .slice tq (List.length B) tc, .int .i64 0, .int .i64 0, .int .i64 0]) (by simp [results, go_sem, *]) rfl ?_
  exact ⟨sq, sc, tq, tc, rfl, (hv.of (fun hv => by repeat (first | (with_reducible exact hv) | with_reducible refine SpFar.alloc ?_ _ | with_reducible refine SpFar.more ?_ _ _ | with_reducible refine SpFar.set ?_ (by dsimp only; (try simp only [World.size_more, World.size_alloc, World.size_setCell, World.size_drew, Array.size_append]); omega) _ | with_reducible refine SpFar.drew ?_)) (by (try simp only [World.size_more, World.size_alloc, World.size_setCell, World.size_drew, Array.size_append]); omega)), (Gr.below (by repeat (first | (with_reducible exact Gr.refl _) | with_reducible refine Gr.alloc ?_ _ | with_reducible refine Gr.more ?_ _ _ | with_reducible refine Gr.setCell ?_ (by dsimp only; omega) _ | with_reducible refine Gr.drew ?_)))⟩

set_option maxRecDepth 100000 in
set_option maxHeartbeats 2000000 in
theorem rSeal_bad {P : List Int} {B : List UInt8} (hs : spB P B.length = false) (k : Int) : RSeal P B k [] [] 30 := by
  intro w p pc q qc h
  have C1 : ∀ W, Below w.heap.size w W → Calls Try.prog 22 #[spV p P.length pc q B.length qc] W fun e w' => e = .returned (.int .i64 (spE P B.length)) ∧ Below W.heap.size W w' := fun W g => rcheck3_any P p pc q B.length qc W (h.perm.up g)
  rw [spE_bad hs] at C1
  clear h hs
  go_enter Try.func20, Try.ntmps20
  go_wp2_with (go_at_call 22; (refine (C1 _ (Gr.below (by repeat (first | (with_reducible exact Gr.refl _) | with_reducible refine Gr.alloc ?_ _ | with_reducible refine Gr.more ?_ _ _ | with_reducible refine Gr.setCell ?_ (by dsimp only; omega) _ | with_reducible refine Gr.drew ?_)))).mono ?_); rintro e w1 ⟨rfl, hb⟩; obtain ⟨os, n', rfl⟩ := Below.moreE hb; clear hb)
  refine bodyPost_ret (v := .agg #[.slice none 0 0, .slice none 0 0, .int .i64 0, .int .i64 0, .int .i64 30]) (by simp [results, go_sem, *]) rfl ?_
  exact spaNone (Gr.below (by repeat (first | (with_reducible exact Gr.refl _) | with_reducible refine Gr.alloc ?_ _ | with_reducible refine Gr.more ?_ _ _ | with_reducible refine Gr.setCell ?_ (by dsimp only; omega) _ | with_reducible refine Gr.drew ?_)))

set_option maxRecDepth 100000 in
set_option maxHeartbeats 2000000 in
theorem rSeal_lo {P : List Int} {B : List UInt8} (hs : spB P B.length = true) (k : Int) (hk : k < 0) : RSeal P B k [] [] 31 := by
  intro w p pc q qc h
  have C1 : ∀ W, Below w.heap.size w W → Calls Try.prog 22 #[spV p P.length pc q B.length qc] W fun e w' => e = .returned (.int .i64 (spE P B.length)) ∧ Below W.heap.size W w' := fun W g => rcheck3_any P p pc q B.length qc W (h.perm.up g)
  rw [spE_ok hs] at C1
  clear h hs
  go_enter Try.func20, Try.ntmps20
  go_wp2_with (go_at_call 22; (refine (C1 _ (Gr.below (by repeat (first | (with_reducible exact Gr.refl _) | with_reducible refine Gr.alloc ?_ _ | with_reducible refine Gr.more ?_ _ _ | with_reducible refine Gr.setCell ?_ (by dsimp only; omega) _ | with_reducible refine Gr.drew ?_)))).mono ?_); rintro e w1 ⟨rfl, hb⟩; obtain ⟨os, n', rfl⟩ := Below.moreE hb; clear hb)
  refine bodyPost_ret (v := .agg #[.slice none 0 0, .slice none 0 0, .int .i64 0, .int .i64 0, .int .i64 31]) (by simp [results, go_sem, *]) rfl ?_
  exact spaNone (Gr.below (by repeat (first | (with_reducible exact Gr.refl _) | with_reducible refine Gr.alloc ?_ _ | with_reducible refine Gr.more ?_ _ _ | with_reducible refine Gr.setCell ?_ (by dsimp only; omega) _ | with_reducible refine Gr.drew ?_)))

set_option maxRecDepth 100000 in
set_option maxHeartbeats 2000000 in
theorem rSeal_hi {P : List Int} {B : List UInt8} (hs : spB P B.length = true) (k : Int) (h0 : ¬ k < 0) (hk : (P.length : Int) ≤ k) : RSeal P B k [] [] 31 := by
  intro w p pc q qc h
  have C1 : ∀ W, Below w.heap.size w W → Calls Try.prog 22 #[spV p P.length pc q B.length qc] W fun e w' => e = .returned (.int .i64 (spE P B.length)) ∧ Below W.heap.size W w' := fun W g => rcheck3_any P p pc q B.length qc W (h.perm.up g)
  rw [spE_ok hs] at C1
  clear h hs
  go_enter Try.func20, Try.ntmps20
  go_wp2_with (go_at_call 22; (refine (C1 _ (Gr.below (by repeat (first | (with_reducible exact Gr.refl _) | with_reducible refine Gr.alloc ?_ _ | with_reducible refine Gr.more ?_ _ _ | with_reducible refine Gr.setCell ?_ (by dsimp only; omega) _ | with_reducible refine Gr.drew ?_)))).mono ?_); rintro e w1 ⟨rfl, hb⟩; obtain ⟨os, n', rfl⟩ := Below.moreE hb; clear hb)
  refine bodyPost_ret (v := .agg #[.slice none 0 0, .slice none 0 0, .int .i64 0, .int .i64 0, .int .i64 31]) (by simp [results, go_sem, *]) rfl ?_
  exact spaNone (Gr.below (by repeat (first | (with_reducible exact Gr.refl _) | with_reducible refine Gr.alloc ?_ _ | with_reducible refine Gr.more ?_ _ _ | with_reducible refine Gr.setCell ?_ (by dsimp only; omega) _ | with_reducible refine Gr.drew ?_)))

theorem rSeal_page {P : List Int} {B : List UInt8} (hs : spB P B.length = true) (k : Int) (hk : k < 0 ∨ (P.length : Int) ≤ k) : RSeal P B k [] [] 31 := by
  by_cases h0 : k < 0
  · exact rSeal_lo hs k h0
  · exact rSeal_hi hs k h0 (by omega)

set_option maxRecDepth 100000 in
set_option maxHeartbeats 2000000 in
theorem rProt_bad {P : List Int} {B : List UInt8} (hs : spB P B.length = false) (k perm : Int) : RProt P B k perm [] [] 30 := by
  intro w p pc q qc h
  have C1 : ∀ W, Below w.heap.size w W → Calls Try.prog 22 #[spV p P.length pc q B.length qc] W fun e w' => e = .returned (.int .i64 (spE P B.length)) ∧ Below W.heap.size W w' := fun W g => rcheck3_any P p pc q B.length qc W (h.perm.up g)
  rw [spE_bad hs] at C1
  clear h hs
  go_enter Try.func19, Try.ntmps19
  go_wp2_with (go_at_call 22; (refine (C1 _ (Gr.below (by repeat (first | (with_reducible exact Gr.refl _) | with_reducible refine Gr.alloc ?_ _ | with_reducible refine Gr.more ?_ _ _ | with_reducible refine Gr.setCell ?_ (by dsimp only; omega) _ | with_reducible refine Gr.drew ?_)))).mono ?_); rintro e w1 ⟨rfl, hb⟩; obtain ⟨os, n', rfl⟩ := Below.moreE hb; clear hb)
  refine bodyPost_ret (v := .agg #[.slice none 0 0, .slice none 0 0, .int .i64 0, .int .i64 0, .int .i64 30]) (by simp [results, go_sem, *]) rfl ?_
  exact spaNone (Gr.below (by repeat (first | (with_reducible exact Gr.refl _) | with_reducible refine Gr.alloc ?_ _ | with_reducible refine Gr.more ?_ _ _ | with_reducible refine Gr.setCell ?_ (by dsimp only; omega) _ | with_reducible refine Gr.drew ?_)))

set_option maxRecDepth 100000 in
set_option maxHeartbeats 2000000 in
theorem rProt_lo {P : List Int} {B : List UInt8} (hs : spB P B.length = true) (k perm : Int) (hk : k < 0) : RProt P B k perm [] [] 31 := by
  intro w p pc q qc h
  have C1 : ∀ W, Below w.heap.size w W → Calls Try.prog 22 #[spV p P.length pc q B.length qc] W fun e w' => e = .returned (.int .i64 (spE P B.length)) ∧ Below W.heap.size W w' := fun W g => rcheck3_any P p pc q B.length qc W (h.perm.up g)
  rw [spE_ok hs] at C1
  clear h hs
  go_enter Try.func19, Try.ntmps19
  go_wp2_with (go_at_call 22; (refine (C1 _ (Gr.below (by repeat (first | (with_reducible exact Gr.refl _) | with_reducible refine Gr.alloc ?_ _ | with_reducible refine Gr.more ?_ _ _ | with_reducible refine Gr.setCell ?_ (by dsimp only; omega) _ | with_reducible refine Gr.drew ?_)))).mono ?_); rintro e w1 ⟨rfl, hb⟩; obtain ⟨os, n', rfl⟩ := Below.moreE hb; clear hb)
  refine bodyPost_ret (v := .agg #[.slice none 0 0, .slice none 0 0, .int .i64 0, .int .i64 0, .int .i64 31]) (by simp [results, go_sem, *]) rfl ?_
  exact spaNone (Gr.below (by repeat (first | (with_reducible exact Gr.refl _) | with_reducible refine Gr.alloc ?_ _ | with_reducible refine Gr.more ?_ _ _ | with_reducible refine Gr.setCell ?_ (by dsimp only; omega) _ | with_reducible refine Gr.drew ?_)))

set_option maxRecDepth 100000 in
set_option maxHeartbeats 2000000 in
theorem rProt_hi {P : List Int} {B : List UInt8} (hs : spB P B.length = true) (k perm : Int) (h0 : ¬ k < 0) (hk : (P.length : Int) ≤ k) : RProt P B k perm [] [] 31 := by
  intro w p pc q qc h
  have C1 : ∀ W, Below w.heap.size w W → Calls Try.prog 22 #[spV p P.length pc q B.length qc] W fun e w' => e = .returned (.int .i64 (spE P B.length)) ∧ Below W.heap.size W w' := fun W g => rcheck3_any P p pc q B.length qc W (h.perm.up g)
  rw [spE_ok hs] at C1
  clear h hs
  go_enter Try.func19, Try.ntmps19
  go_wp2_with (go_at_call 22; (refine (C1 _ (Gr.below (by repeat (first | (with_reducible exact Gr.refl _) | with_reducible refine Gr.alloc ?_ _ | with_reducible refine Gr.more ?_ _ _ | with_reducible refine Gr.setCell ?_ (by dsimp only; omega) _ | with_reducible refine Gr.drew ?_)))).mono ?_); rintro e w1 ⟨rfl, hb⟩; obtain ⟨os, n', rfl⟩ := Below.moreE hb; clear hb)
  refine bodyPost_ret (v := .agg #[.slice none 0 0, .slice none 0 0, .int .i64 0, .int .i64 0, .int .i64 31]) (by simp [results, go_sem, *]) rfl ?_
  exact spaNone (Gr.below (by repeat (first | (with_reducible exact Gr.refl _) | with_reducible refine Gr.alloc ?_ _ | with_reducible refine Gr.more ?_ _ _ | with_reducible refine Gr.setCell ?_ (by dsimp only; omega) _ | with_reducible refine Gr.drew ?_)))

theorem rProt_page {P : List Int} {B : List UInt8} (hs : spB P B.length = true) (k perm : Int) (hk : k < 0 ∨ (P.length : Int) ≤ k) : RProt P B k perm [] [] 31 := by
  by_cases h0 : k < 0
  · exact rProt_lo hs k perm h0
  · exact rProt_hi hs k perm h0 (by omega)
end Go.Proofs.Ytnapbpfofpaakaa

namespace Go.Proofs.Ytnapbpfofpaakaa
open Go.RowKit

set_option maxRecDepth 100000 in
set_option maxHeartbeats 8000000 in
theorem moves_core (w : World) (P : List Int) (p : Option Addr) (pc : Nat) (B : List UInt8) (q : Option Addr) (qc : Nat) (hS : SpAt w P p B q qc) (i s : Int) (g : Bool) (x : Int) (bs : List UInt8) (bq : Option Addr) (bc : Nat) (hbs : SeqAt w bq (bV bs)) (hbq : ∀ b o, bq = some ⟨b, o, none⟩ → b < w.heap.size)
    {V K A E : Int} {P2 : List Int} {B2 : List UInt8} {K2 A2 E2 : Int} {P3 : List Int} {B3 : List UInt8} {K3 A3 E3 : Int} (l2 : P2.length ≤ 4096) (l3 : P3.length ≤ 4096)
    (M1 : CLoad P B i s g V K A E) (M2 : CStore P B i s g x P2 B2 K2 A2 E2) (M3 : CPoke P B i bs P3 B3 K3 A3 E3) (R1 : RLoad P B i s g V K A E) (R2 : RStore P B i s g x P2 B2 K2 A2 E2) (R3 : RPoke P B i bs P3 B3 K3 A3 E3) :
    Calls Try.prog 5 #[spV p P.length pc q B.length qc, .agg #[.int .i64 i, .int .i64 s, .bool g, .int .i64 x], .slice bq bs.length bc] w fun e w' => e = .returned (.bool true) ∧ Below w.heap.size w w' := by
  have HM1 := fun W (h : Below w.heap.size w W) => M1 W p pc q qc (hS.up h)
  have HM2 := fun W (h : Below w.heap.size w W) => M2 W p pc q qc (hS.up h)
  have HR1 := fun W (h : Below w.heap.size w W) => R1 W p pc q qc (hS.up h)
  have HR2 := fun W (h : Below w.heap.size w W) => R2 W p pc q qc (hS.up h)
  have HM3 := fun W (h : Below w.heap.size w W) => M3 W p pc q qc bq bc (hS.up h) (hbs.up h) (fun b o e => Nat.lt_of_lt_of_le (hbq b o e) h.size)
  have HR3 := fun W (h : Below w.heap.size w W) => R3 W p pc q qc bq bc (hS.up h) (hbs.up h)
  have S2 : ∀ W {a c d f a' c' d' f'}, SpAt W P2 a B2 c d → SpAt W P2 a' B2 c' d' → Calls Try.prog 23 #[spV a P2.length f c B2.length d, spV a' P2.length f' c' B2.length d'] W fun e w' => e = .returned (.bool true) ∧ Below W.heap.size W w' := fun W {a c d f a' c' d' f'} h h' => by
    have := rsame_any P2 a f B2 c d P2 a' f' B2 c' d' W h.perm h.byte h'.perm h'.byte (by omega)
    simpa using this
  have S3 : ∀ W {a c d f a' c' d' f'}, SpAt W P3 a B3 c d → SpAt W P3 a' B3 c' d' → Calls Try.prog 23 #[spV a P3.length f c B3.length d, spV a' P3.length f' c' B3.length d'] W fun e w' => e = .returned (.bool true) ∧ Below W.heap.size W w' := fun W {a c d f a' c' d' f'} h h' => by
    have := rsame_any P3 a f B3 c d P3 a' f' B3 c' d' W h.perm h.byte h'.perm h'.byte (by omega)
    simpa using this
  clear M1 M2 M3 R1 R2 R3 hS hbs hbq l2 l3
  unfold SpAns at HR2 HR3
  go_enter Try.func5, Try.ntmps5
  go_upto_region 8 with (first | (go_at_call 14; (refine (msane_any _).mono ?_); rintro e w1 ⟨rfl, hb⟩; obtain ⟨os, n', rfl⟩ := Below.moreE hb; clear hb) | (go_at_call 33; (refine (HM1 _ (Gr.below (by repeat (first | (with_reducible exact Gr.refl _) | with_reducible refine Gr.alloc ?_ _ | with_reducible refine Gr.more ?_ _ _ | with_reducible refine Gr.setCell ?_ (by dsimp only; omega) _ | with_reducible refine Gr.drew ?_)))).mono ?_); rintro e w1 ⟨rfl, hb⟩; obtain ⟨os, n', rfl⟩ := Below.moreE hb; clear hb) | (go_at_call 34; (refine (HM2 _ (Gr.below (by repeat (first | (with_reducible exact Gr.refl _) | with_reducible refine Gr.alloc ?_ _ | with_reducible refine Gr.more ?_ _ _ | with_reducible refine Gr.setCell ?_ (by dsimp only; omega) _ | with_reducible refine Gr.drew ?_)))).mono ?_); rintro e w1 ⟨_, rfl, ⟨vap, vapc, vaq, vaqc, rfl, var⟩, hb⟩; have va := SpIn.at var; clear var; obtain ⟨os, n', rfl⟩ := Below.moreE hb; clear hb; (try simp only [World.more_more, World.more_drew, Array.append_assoc] at va)) | (go_at_call 35; (refine (HM3 _ (Gr.below (by repeat (first | (with_reducible exact Gr.refl _) | with_reducible refine Gr.alloc ?_ _ | with_reducible refine Gr.more ?_ _ _ | with_reducible refine Gr.setCell ?_ (by dsimp only; omega) _ | with_reducible refine Gr.drew ?_)))).mono ?_); rintro e w1 ⟨_, rfl, ⟨vbp, vbpc, vbq, vbqc, rfl, vbr⟩, hb⟩; have vb := SpIn.at vbr; clear vbr; replace va := SpAt.up va (Gr.below (Gr.trans (by repeat (first | (with_reducible exact Gr.refl _) | with_reducible refine Gr.alloc ?_ _ | with_reducible refine Gr.more ?_ _ _ | with_reducible refine Gr.setCell ?_ (by dsimp only; (try simp only [World.size_more, World.size_alloc, World.size_setCell, World.size_drew, Array.size_append]); omega) _ | with_reducible refine Gr.drew ?_)) (Gr.of hb))); obtain ⟨os, n', rfl⟩ := Below.moreE hb; clear hb; (try simp only [World.more_more, World.more_drew, Array.append_assoc] at va); (try simp only [World.more_more, World.more_drew, Array.append_assoc] at vb)) | (go_at_call 36; (refine (HR1 _ (Gr.below (by repeat (first | (with_reducible exact Gr.refl _) | with_reducible refine Gr.alloc ?_ _ | with_reducible refine Gr.more ?_ _ _ | with_reducible refine Gr.setCell ?_ (by dsimp only; omega) _ | with_reducible refine Gr.drew ?_)))).mono ?_); rintro e w1 ⟨rfl, hb⟩; replace va := SpAt.up va (Gr.below (Gr.trans (by repeat (first | (with_reducible exact Gr.refl _) | with_reducible refine Gr.alloc ?_ _ | with_reducible refine Gr.more ?_ _ _ | with_reducible refine Gr.setCell ?_ (by dsimp only; (try simp only [World.size_more, World.size_alloc, World.size_setCell, World.size_drew, Array.size_append]); omega) _ | with_reducible refine Gr.drew ?_)) (Gr.of hb))); replace vb := SpAt.up vb (Gr.below (Gr.trans (by repeat (first | (with_reducible exact Gr.refl _) | with_reducible refine Gr.alloc ?_ _ | with_reducible refine Gr.more ?_ _ _ | with_reducible refine Gr.setCell ?_ (by dsimp only; (try simp only [World.size_more, World.size_alloc, World.size_setCell, World.size_drew, Array.size_append]); omega) _ | with_reducible refine Gr.drew ?_)) (Gr.of hb))); obtain ⟨os, n', rfl⟩ := Below.moreE hb; clear hb; (try simp only [World.more_more, World.more_drew, Array.append_assoc] at va); (try simp only [World.more_more, World.more_drew, Array.append_assoc] at vb)) | (go_at_call 37; (refine (HR2 _ (Gr.below (by repeat (first | (with_reducible exact Gr.refl _) | with_reducible refine Gr.alloc ?_ _ | with_reducible refine Gr.more ?_ _ _ | with_reducible refine Gr.setCell ?_ (by dsimp only; omega) _ | with_reducible refine Gr.drew ?_)))).mono ?_); rintro e w1 ⟨vcp, vcpc, vcq, vcqc, rfl, vcr, hb⟩; have vc := SpIn.at (SpFar.in vcr); clear vcr; replace va := SpAt.up va (Gr.below (Gr.trans (by repeat (first | (with_reducible exact Gr.refl _) | with_reducible refine Gr.alloc ?_ _ | with_reducible refine Gr.more ?_ _ _ | with_reducible refine Gr.setCell ?_ (by dsimp only; (try simp only [World.size_more, World.size_alloc, World.size_setCell, World.size_drew, Array.size_append]); omega) _ | with_reducible refine Gr.drew ?_)) (Gr.of hb))); replace vb := SpAt.up vb (Gr.below (Gr.trans (by repeat (first | (with_reducible exact Gr.refl _) | with_reducible refine Gr.alloc ?_ _ | with_reducible refine Gr.more ?_ _ _ | with_reducible refine Gr.setCell ?_ (by dsimp only; (try simp only [World.size_more, World.size_alloc, World.size_setCell, World.size_drew, Array.size_append]); omega) _ | with_reducible refine Gr.drew ?_)) (Gr.of hb))); obtain ⟨os, n', rfl⟩ := Below.moreE hb; clear hb; (try simp only [World.more_more, World.more_drew, Array.append_assoc] at va); (try simp only [World.more_more, World.more_drew, Array.append_assoc] at vb); (try simp only [World.more_more, World.more_drew, Array.append_assoc] at vc)) | (go_at_call 38; (refine (HR3 _ (Gr.below (by repeat (first | (with_reducible exact Gr.refl _) | with_reducible refine Gr.alloc ?_ _ | with_reducible refine Gr.more ?_ _ _ | with_reducible refine Gr.setCell ?_ (by dsimp only; omega) _ | with_reducible refine Gr.drew ?_)))).mono ?_); rintro e w1 ⟨vdp, vdpc, vdq, vdqc, rfl, vdr, hb⟩; have vd := SpIn.at (SpFar.in vdr); clear vdr; replace va := SpAt.up va (Gr.below (Gr.trans (by repeat (first | (with_reducible exact Gr.refl _) | with_reducible refine Gr.alloc ?_ _ | with_reducible refine Gr.more ?_ _ _ | with_reducible refine Gr.setCell ?_ (by dsimp only; (try simp only [World.size_more, World.size_alloc, World.size_setCell, World.size_drew, Array.size_append]); omega) _ | with_reducible refine Gr.drew ?_)) (Gr.of hb))); replace vb := SpAt.up vb (Gr.below (Gr.trans (by repeat (first | (with_reducible exact Gr.refl _) | with_reducible refine Gr.alloc ?_ _ | with_reducible refine Gr.more ?_ _ _ | with_reducible refine Gr.setCell ?_ (by dsimp only; (try simp only [World.size_more, World.size_alloc, World.size_setCell, World.size_drew, Array.size_append]); omega) _ | with_reducible refine Gr.drew ?_)) (Gr.of hb))); replace vc := SpAt.up vc (Gr.below (Gr.trans (by repeat (first | (with_reducible exact Gr.refl _) | with_reducible refine Gr.alloc ?_ _ | with_reducible refine Gr.more ?_ _ _ | with_reducible refine Gr.setCell ?_ (by dsimp only; (try simp only [World.size_more, World.size_alloc, World.size_setCell, World.size_drew, Array.size_append]); omega) _ | with_reducible refine Gr.drew ?_)) (Gr.of hb))); obtain ⟨os, n', rfl⟩ := Below.moreE hb; clear hb; (try simp only [World.more_more, World.more_drew, Array.append_assoc] at va); (try simp only [World.more_more, World.more_drew, Array.append_assoc] at vb); (try simp only [World.more_more, World.more_drew, Array.append_assoc] at vc); (try simp only [World.more_more, World.more_drew, Array.append_assoc] at vd)))
  go_wp2_with (first | (go_at_call 23; (with_reducible refine (S2 _ ?hx1 ?hx2).mono ?_); (case hx1 => exact (SpAt.up va (Gr.below (by repeat (first | (with_reducible exact Gr.refl _) | with_reducible refine Gr.alloc ?_ _ | with_reducible refine Gr.more ?_ _ _ | with_reducible refine Gr.setCell ?_ (by dsimp only; (try simp only [World.size_more, World.size_alloc, World.size_setCell, World.size_drew, Array.size_append]); omega) _ | with_reducible refine Gr.drew ?_))))); (case hx2 => exact (SpAt.up vc (Gr.below (by repeat (first | (with_reducible exact Gr.refl _) | with_reducible refine Gr.alloc ?_ _ | with_reducible refine Gr.more ?_ _ _ | with_reducible refine Gr.setCell ?_ (by dsimp only; (try simp only [World.size_more, World.size_alloc, World.size_setCell, World.size_drew, Array.size_append]); omega) _ | with_reducible refine Gr.drew ?_))))); rintro e w1 ⟨rfl, hb⟩; obtain ⟨os, n', rfl⟩ := Below.moreE hb; clear hb) | (go_at_call 23; (with_reducible refine (S3 _ ?hx1 ?hx2).mono ?_); (case hx1 => exact (SpAt.up vb (Gr.below (by repeat (first | (with_reducible exact Gr.refl _) | with_reducible refine Gr.alloc ?_ _ | with_reducible refine Gr.more ?_ _ _ | with_reducible refine Gr.setCell ?_ (by dsimp only; (try simp only [World.size_more, World.size_alloc, World.size_setCell, World.size_drew, Array.size_append]); omega) _ | with_reducible refine Gr.drew ?_))))); (case hx2 => exact (SpAt.up vd (Gr.below (by repeat (first | (with_reducible exact Gr.refl _) | with_reducible refine Gr.alloc ?_ _ | with_reducible refine Gr.more ?_ _ _ | with_reducible refine Gr.setCell ?_ (by dsimp only; (try simp only [World.size_more, World.size_alloc, World.size_setCell, World.size_drew, Array.size_append]); omega) _ | with_reducible refine Gr.drew ?_))))); rintro e w1 ⟨rfl, hb⟩; obtain ⟨os, n', rfl⟩ := Below.moreE hb; clear hb))
  go_ret
  exact ⟨rfl, (Gr.below (by repeat (first | (with_reducible exact Gr.refl _) | with_reducible refine Gr.alloc ?_ _ | with_reducible refine Gr.more ?_ _ _ | with_reducible refine Gr.setCell ?_ (by dsimp only; omega) _ | with_reducible refine Gr.drew ?_)))⟩

theorem load_both (P : List Int) (B : List UInt8) (i s : Int) (g : Bool) : ∃ V K A E, CLoad P B i s g V K A E ∧ RLoad P B i s g V K A E := by
  cases hs : spB P B.length
  · exact ⟨_, _, _, _, cLoad_bad hs i s g, rLoad_bad hs i s g⟩
  cases hv : validB s
  · exact ⟨_, _, _, _, cLoad_type hs i hv g, rLoad_type hs i hv g⟩
  by_cases hf : fltK P 1 i s.toNat = 0
  · exact ⟨_, _, _, _, cLoad_ok hs i hv g hf, rLoad_ok hs i hv g hf⟩
  · exact ⟨_, _, _, _, cLoad_flt hs i hv g hf, rLoad_flt hs i hv g hf⟩
theorem store_both (P : List Int) (B : List UInt8) (i s : Int) (g : Bool) (x : Int) (hx : I64 x) : ∃ P' B' K A E, P'.length ≤ 4096 ∧ CStore P B i s g x P' B' K A E ∧ RStore P B i s g x P' B' K A E := by
  cases hs : spB P B.length
  · exact ⟨_, _, _, _, _, by simp, cStore_bad hs i s g x, rStore_bad hs i s g x⟩
  have hl := (spB_len hs).1
  cases hv : validB s
  · exact ⟨_, _, _, _, _, by simp, cStore_type hs i hv g x, rStore_type hs i hv g x⟩
  by_cases hf : fltK P 2 i s.toNat = 0
  · exact ⟨_, _, _, _, _, by omega, cStore_ok hs i hv g x hf, rStore_ok hs i hv g x hx hf⟩
  · exact ⟨_, _, _, _, _, by simp, cStore_flt hs i hv g x hf, rStore_flt hs i hv g x hf⟩
theorem poke_both (P : List Int) (B : List UInt8) (i : Int) (bs : List UInt8) : ∃ P' B' K A E, P'.length ≤ 4096 ∧ CPoke P B i bs P' B' K A E ∧ RPoke P B i bs P' B' K A E := by
  cases hs : spB P B.length
  · exact ⟨_, _, _, _, _, by simp, cPoke_bad hs i bs, rPoke_bad hs i bs⟩
  have hl := (spB_len hs).1
  by_cases hn : 2048 < bs.length
  · exact ⟨_, _, _, _, _, by simp, cPoke_long hs i bs hn, rPoke_long hs i bs hn⟩
  by_cases hf : fltK P 0 i bs.length = 0
  · exact ⟨_, _, _, _, _, by omega, cPoke_ok hs i bs (by omega) hf, rPoke_ok hs i bs (by omega) hf⟩
  · exact ⟨_, _, _, _, _, by simp, cPoke_flt hs i bs (by omega) hf, rPoke_flt hs i bs (by omega) hf⟩
theorem law_moves (w : World) (P : List Int) (p : Option Addr) (pc : Nat) (B : List UInt8) (q : Option Addr) (qc : Nat) (hS : SpIn 0 w.heap.size w P p B q qc) (i s : Int) (g : Bool) (x : Int) (_ : I64 i) (_ : I64 s) (hx : I64 x) (bs : List UInt8) (bq : Option Addr) (bc : Nat) (hb : SeqIn 0 w.heap.size w bq (bV bs) ∧ ∀ b o, bq = some ⟨b, o, none⟩ → b < w.heap.size) :
    Calls Try.prog 5 #[spV p P.length pc q B.length qc, .agg #[.int .i64 i, .int .i64 s, .bool g, .int .i64 x], .slice bq bs.length bc] w fun e w' => e = .returned (.bool true) ∧ Below w.heap.size w w' := by
  obtain ⟨V, K, A, E, M1, R1⟩ := load_both P B i s g
  obtain ⟨P2, B2, K2, A2, E2, l2, M2, R2⟩ := store_both P B i s g x hx
  obtain ⟨P3, B3, K3, A3, E3, l3, M3, R3⟩ := poke_both P B i bs
  exact moves_core w P p pc B q qc hS.at i s g x bs bq bc hb.1.at hb.2 l2 l3 M1 M2 M3 R1 R2 R3
end Go.Proofs.Ytnapbpfofpaakaa

namespace Go.Proofs.Ytnapbpfofpaakaa
set_option maxRecDepth 100000
open Go.ChangeShapes Go.WideShapes Go.ChangeAt Go.WideElems Go.RowKit Go.Joins

theorem open_Bytes {H : Type} {enc : TypeId × Value → H} {W : World} {base : Nat} {v : Value} {d : DataW H} {p : List MemPlace} (hv : Value.okWide Try.prog W .any base 23 v) (h : DataW.Trod enc Try.prog W 0 (fun _ => true) true 23 v d p) :
    ∃ B q qc, v = .slice q (List.length B) qc ∧ (SeqIn 0 W.heap.size W q (bV B) ∧ ∀ b o, q = some ⟨b, o, none⟩ → b < W.heap.size) := by
  simp only [Value.okWide, Try.underlying23] at hv
  obtain ⟨fuel, hf⟩ := h
  have hv' := hv
  simp only [Cell.okWide, Cell.ok, Try.underlying23] at hv'
  cases v <;> first | (simp at hv'; done) | skip
  rename_i a0 len0 cap0
  rcases open_ints Try.underlying23 Try.underlying5 cells_u81 hf with ⟨e, _⟩ | ⟨a, len, cap, zs, e, _, hl, _, hz, _, hc, hw⟩
  · simp [Value.cells] at e
    obtain ⟨rfl, rfl, rfl⟩ := e
    exact ⟨[], none, 0, rfl, .inl rfl, fun _ _ e => by cases e⟩
  · simp [Value.cells] at e
    obtain ⟨rfl, rfl, rfl⟩ := e
    obtain ⟨b, o, rfl, hb⟩ := has_of_cell Try.underlying23 hv
    simp at hz
    have hlen : (byL (zs.take len0)).length = len0 := by simp [byL, hz, hl]
    exact ⟨byL (zs.take len0), some ⟨b, o, none⟩, cap0, by rw [hlen], bytes_in hb hc hw, fun b' o' e => by injection e with e; injection e with e1; omega⟩
theorem okWide_arr' {P : Program} {W : World} {r : Reach} {base : Nat} {t e : TypeId} {n : Nat} {v : Value} (ht : P.underlying t = some (.array n e)) (h : Value.okWide P W r base t v) : ∃ cs, v = .agg cs ∧ cs.size = P.cellsOf t := by
  simp only [Value.okWide, ht] at h
  obtain ⟨cs, h1, h2, _⟩ := h
  exact ⟨cs, h1, h2⟩
theorem open_Two {H : Type} {enc : TypeId × Value → H} {W : World} {base : Nat} {v : Value} {d : DataW H} {p : List MemPlace} (hv : Value.okWide Try.prog W .any base 26 v) (h : DataW.Trod enc Try.prog W 0 (fun _ => true) true 26 v d p) : ∃ i j, v = .agg #[.int .i64 i, .int .i64 j] ∧ I64 i ∧ I64 j := by
  obtain ⟨cs, rfl, hsz⟩ := okWide_arr' Try.underlying26 hv
  obtain ⟨fuel, hf⟩ := h
  obtain ⟨xs, m, _, _, _, hn, hel⟩ := DataW.trod_array Try.underlying26 hf
  obtain ⟨c0, c1, rfl⟩ := array2 (hsz.trans (show Try.prog.cellsOf 26 = 2 by kernel_rfl))
  match xs, hn with
  | [x0, x1], _ =>
    have h0 := hel 0 (by decide); have h1 := hel 1 (by decide)
    rw [cells_int1] at h0 h1
    obtain ⟨a, e0, _, w0⟩ := DataW.trod_int Try.underlying3 (show DataW.trod _ _ _ _ _ _ m _ _ = some x0 from h0)
    obtain ⟨b, e1, _, w1⟩ := DataW.trod_int Try.underlying3 (show DataW.trod _ _ _ _ _ _ m _ _ = some x1 from h1)
    simp [Value.cells] at e0 e1
    subst e0 e1
    exact ⟨a, b, rfl, i64_wf w0, i64_wf w1⟩
theorem open_SpaceL {H : Type} {enc : TypeId × Value → H} {W : World} {base : Nat} {v : Value} {d : DataW H} {p : List MemPlace} (hv : Value.okWide Try.prog W .any base 25 v) (h : DataW.Trod enc Try.prog W 0 (fun _ => true) true 25 v d p) :
    ∃ P a pc B q qc, v = spV a P.length pc q B.length qc ∧ SpIn 0 W.heap.size W P a B q qc ∧ P.length ≤ maxLen := by
  have hv' := hv
  simp only [Value.okWide, Try.underlying25] at hv'
  obtain ⟨cs, rfl, hsz, ts, hts, _, hcell⟩ := hv'
  rw [types_Space] at hts
  cases hts
  obtain ⟨c0, c1, y0, y1, m, e, _, _, hy0, hy1⟩ := open_agg2 Try.underlying25 (by kernel_rfl) cells_Space hv h
  injection e with e
  subst e
  obtain ⟨u0, e0, k0⟩ := hcell 0 c0 rfl
  obtain ⟨u1, e1, k1⟩ := hcell 1 c1 rfl
  cases e0; cases e1
  have A : ∃ P a pc, c0 = .slice a (List.length P) pc ∧ SeqIn 0 W.heap.size W a (iV P) ∧ (∀ b o, a = some ⟨b, o, none⟩ → b < W.heap.size) ∧ P.length ≤ maxLen := by
    rcases open_ints Try.underlying22 Try.underlying3 cells_int1 hy0 with ⟨e, _⟩ | ⟨a, len, cap, zs, e, _, hl, hcm, hz, _, hc, _⟩
    · injection e with e
      exact ⟨[], none, 0, e, .inl rfl, (fun _ _ e => by cases e), by simp⟩
    · injection e with e
      subst e
      obtain ⟨b, o, rfl, hb⟩ := has_of_cell Try.underlying22 k0
      simp at hz
      refine ⟨zs.take len, some ⟨b, o, none⟩, cap, by rw [List.length_take, hz, Nat.min_eq_left hl], ints_in hb hc, (fun b' o' e => by injection e with e; injection e with e1; omega), by rw [List.length_take]; omega⟩
  have Bq : ∃ B q qc, c1 = .slice q (List.length B) qc ∧ SeqIn 0 W.heap.size W q (bV B) ∧ B.length ≤ qc := by
    rcases open_ints Try.underlying23 Try.underlying5 cells_u81 hy1 with ⟨e, _⟩ | ⟨a, len, cap, zs, e, _, hl, _, hz, _, hc, hw⟩
    · injection e with e
      exact ⟨[], none, 0, e, .inl rfl, Nat.le_refl _⟩
    · injection e with e
      subst e
      obtain ⟨b, o, rfl, hb⟩ := has_of_cell Try.underlying23 k1
      simp at hz
      have hlen : (byL (zs.take len)).length = len := by simp [byL, hz, hl]
      exact ⟨byL (zs.take len), some ⟨b, o, none⟩, cap, by rw [hlen], bytes_in hb hc hw, by omega⟩
  obtain ⟨P, a, pc, rfl, h1, h2, h5⟩ := A
  obtain ⟨B, q, qc, rfl, h3, h4⟩ := Bq
  exact ⟨P, a, pc, B, q, qc, rfl, ⟨h1, h3, h2, h4⟩, h5⟩

end Go.Proofs.Ytnapbpfofpaakaa
