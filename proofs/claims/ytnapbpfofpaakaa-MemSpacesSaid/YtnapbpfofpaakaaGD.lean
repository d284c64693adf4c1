/-
  Layer 3, the laws: three, sane (made by genzo.py).
  Layer 3, the laws: sane (made by genzp.py).
-/
import Derived.Test.YtnapbpfofpaakaaGC
namespace Go.Proofs.Ytnapbpfofpaakaa
open Go.RowKit

section
variable {lo hi : Nat} {W W' : World} {P : List Int} {p : Option Addr} {B : List UInt8} {q : Option Addr} {qc : Nat}
theorem SeqIn.set {xs : List Value} (h : SeqIn lo hi W p xs) {a : Addr} (ha : a.block < lo ∨ hi ≤ a.block) (u : Value) : SeqIn lo hi (W.setCell a u) p xs := by
  rcases h with h | ⟨b, o, hp, h1, h2, h⟩
  · exact .inl h
  · exact .inr ⟨b, o, hp, h1, h2, fun j v hj => by rw [World.cell?_setCell_far _ _ _ _ (by dsimp only; omega)]; exact h j v hj⟩
theorem SpIn.set (h : SpIn lo hi W P p B q qc) {a : Addr} (ha : a.block < lo ∨ hi ≤ a.block) (u : Value) : SpIn lo hi (W.setCell a u) P p B q qc :=
  ⟨h.perm.set ha u, h.byte.set ha u, fun b o e => by rw [World.size_setCell]; exact h.old b o e, h.cap⟩
theorem SpIn.alloc (h : SpIn lo hi W P p B q qc) (ob : Obj) : SpIn lo hi (W.alloc ob) P p B q qc := h.up ((Gr.refl W).alloc ob)
theorem SpIn.more (h : SpIn lo hi W P p B q qc) (os : Array Obj) (n : Nat) : SpIn lo hi (W.more os n) P p B q qc := h.up ((Gr.refl W).more os n)
theorem SpIn.of (h : SpIn lo hi W P p B q qc) (g : SpIn lo hi W P p B q qc → SpIn lo hi W' P p B q qc) : SpIn lo hi W' P p B q qc := g h
end

theorem wp_gen {c : Code} {a : Act} {W : World} {Q : Exit → Act → World → Prop} (R : World → Prop) (h : R W) (k : ∀ W', R W' → Code.wp Try.prog c Q a W') : Code.wp Try.prog c Q a W := k W h
def z192 : List UInt8 := List.replicate 192 0
theorem z192_len : z192.length = 192 := List.length_replicate
set_option maxHeartbeats 4000000 in
theorem three_any (w : World) : Calls Try.prog 46 #[] w fun e w' => ∃ v, e = .returned v ∧ SpVal w.heap.size w' v [3, 1, 4] z192 ∧ Below w.heap.size w w' := by
  have H1 : CNew 3 [0, 0, 0] z192 0 := cNew_ok (k := 3) rfl (by decide)
  have H2 : CProt [0, 0, 0] z192 0 3 [3, 0, 0] z192 0 := cProt_ok (k := 0) (by decide +kernel) rfl (by decide) (by decide) (by decide)
  have H3 : CProt [3, 0, 0] z192 1 1 [3, 1, 0] z192 0 := cProt_ok (k := 1) (by decide +kernel) rfl (by decide) (by decide) (by decide)
  have H4 : CSeal [3, 1, 0] z192 2 [3, 1, 4] z192 0 := cSeal_ok (k := 2) (by decide +kernel) rfl (by decide)
  unfold CNew at H1
  unfold CProt at H2 H3
  unfold CSeal at H4
  generalize z192 = B at *
  go_enter Try.func46, Try.ntmps46
  go_upto_region 2 with (go_at_call 15; (refine (H1 _).mono ?_); rintro e w1 ⟨_, rfl, ⟨p1, pc1, q1, qc1, rfl, hv1⟩, hb⟩; obtain ⟨os1, n1, rfl⟩ := Below.moreE hb; clear hb)
  refine wp_gen (R := fun W' => Gr w.heap.size w W' ∧ Bx W' w.heap.size [.slice none 0 0, .slice none 0 0] ∧ Bx W' (w.heap.size + 1 + os1.size) [.slice p1 3 pc1, .slice q1 B.length qc1] ∧ w.heap.size < w.heap.size + 1 + os1.size ∧ ∃ lo hi, SpIn lo hi W' [0, 0, 0] p1 B q1 qc1 ∧ (hi ≤ w.heap.size + 1 + os1.size ∨ w.heap.size + 1 + os1.size < lo) ∧ w.heap.size < lo ∧ hi ≤ W'.heap.size) ⟨(by repeat (first | (with_reducible exact Gr.refl _) | with_reducible refine Gr.alloc ?_ _ | with_reducible refine Gr.more ?_ _ _ | with_reducible refine Gr.setCell ?_ (by dsimp only; (try simp only [World.size_more, World.size_alloc, World.size_setCell, World.size_drew, Array.size_append]); omega) _ | with_reducible refine Gr.drew ?_)), Bx.mk2 (by go_simp) (by go_simp) (by go_simp) (by go_simp), Bx.mk2 (by go_simp) (by go_simp) (by go_simp) (by go_simp), (by (try simp only [World.size_more, World.size_alloc, World.size_setCell, World.size_drew, Array.size_append]); omega), _, _, hv1.of (fun hv => by repeat (first | (with_reducible exact hv) | with_reducible refine SpIn.alloc ?_ _ | with_reducible refine SpIn.more ?_ _ _ | with_reducible refine SpIn.set ?_ (by dsimp only; (try simp only [World.size_more, World.size_alloc, World.size_setCell, World.size_drew, Array.size_append]); omega) _)), (by (try simp only [World.size_more, World.size_alloc, World.size_setCell, World.size_drew, Array.size_append]); omega), (by (try simp only [World.size_more, World.size_alloc, World.size_setCell, World.size_drew, Array.size_append]); omega), (by (try simp only [World.size_more, World.size_alloc, World.size_setCell, World.size_drew, Array.size_append]); omega)⟩ ?_
  clear hv1
  intro W1 hR
  obtain ⟨hG, h0, h1, hlt, lo, hi, hv1, hlo, hlw, hhi⟩ := hR
  have c0_0 := h0.get 0 _ rfl
  have c0_1 := h0.get 1 _ rfl
  have c1_0 := h1.get 0 _ rfl
  have c1_1 := h1.get 1 _ rfl
  have f0_0 := h0.fz 0 _ rfl
  have f0_1 := h0.fz 1 _ rfl
  have f1_0 := h1.fz 0 _ rfl
  have f1_1 := h1.fz 1 _ rfl
  have l0 := h0.lt
  have l1 := h1.lt
  have hz := hG.size
  go_upto_region 3 with (go_at_call 16; (refine (H2 _ _ _ _ _ (hv1.of (fun hv => by repeat (first | (with_reducible exact hv) | with_reducible refine SpIn.alloc ?_ _ | with_reducible refine SpIn.more ?_ _ _ | with_reducible refine SpIn.set ?_ (by dsimp only; (try simp only [World.size_more, World.size_alloc, World.size_setCell, World.size_drew, Array.size_append]); omega) _))).at).mono ?_); rintro e w1 ⟨_, rfl, ⟨p2, pc2, q2, qc2, rfl, hv2⟩, hb⟩; obtain ⟨os2, n2, rfl⟩ := Below.moreE hb; clear hb)
  refine wp_gen (R := fun W' => Gr w.heap.size w W' ∧ Bx W' w.heap.size [.slice none 0 0, .slice none 0 0] ∧ Bx W' (w.heap.size + 1 + os1.size) [.slice p2 3 pc2, .slice q2 B.length qc2] ∧ w.heap.size < w.heap.size + 1 + os1.size ∧ ∃ lo hi, SpIn lo hi W' [3, 0, 0] p2 B q2 qc2 ∧ (hi ≤ w.heap.size + 1 + os1.size ∨ w.heap.size + 1 + os1.size < lo) ∧ w.heap.size < lo ∧ hi ≤ W'.heap.size) ⟨(by repeat (first | (with_reducible exact hG) | with_reducible refine Gr.alloc ?_ _ | with_reducible refine Gr.more ?_ _ _ | with_reducible refine Gr.setCell ?_ (by dsimp only; (try simp only [World.size_more, World.size_alloc, World.size_setCell, World.size_drew, Array.size_append]); omega) _ | with_reducible refine Gr.drew ?_)), Bx.mk2 (by go_simp) (by go_simp) (by go_simp) (by go_simp), Bx.mk2 (by go_simp) (by go_simp) (by go_simp) (by go_simp), (by (try simp only [World.size_more, World.size_alloc, World.size_setCell, World.size_drew, Array.size_append]); omega), _, _, hv2.of (fun hv => by repeat (first | (with_reducible exact hv) | with_reducible refine SpIn.alloc ?_ _ | with_reducible refine SpIn.more ?_ _ _ | with_reducible refine SpIn.set ?_ (by dsimp only; (try simp only [World.size_more, World.size_alloc, World.size_setCell, World.size_drew, Array.size_append]); omega) _)), (by (try simp only [World.size_more, World.size_alloc, World.size_setCell, World.size_drew, Array.size_append]); omega), (by (try simp only [World.size_more, World.size_alloc, World.size_setCell, World.size_drew, Array.size_append]); omega), (by (try simp only [World.size_more, World.size_alloc, World.size_setCell, World.size_drew, Array.size_append]); omega)⟩ ?_
  clear hG h0 h1 hlt hlo hlw hhi hv1 c0_0 c0_1 c1_0 c1_1 f0_0 f0_1 f1_0 f1_1 l0 l1 hz
  intro W2 hR
  obtain ⟨hG, h0, h1, hlt, lo, hi, hv2, hlo, hlw, hhi⟩ := hR
  have c0_0 := h0.get 0 _ rfl
  have c0_1 := h0.get 1 _ rfl
  have c1_0 := h1.get 0 _ rfl
  have c1_1 := h1.get 1 _ rfl
  have f0_0 := h0.fz 0 _ rfl
  have f0_1 := h0.fz 1 _ rfl
  have f1_0 := h1.fz 0 _ rfl
  have f1_1 := h1.fz 1 _ rfl
  have l0 := h0.lt
  have l1 := h1.lt
  have hz := hG.size
  go_upto_region 4 with (go_at_call 16; (refine (H3 _ _ _ _ _ (hv2.of (fun hv => by repeat (first | (with_reducible exact hv) | with_reducible refine SpIn.alloc ?_ _ | with_reducible refine SpIn.more ?_ _ _ | with_reducible refine SpIn.set ?_ (by dsimp only; (try simp only [World.size_more, World.size_alloc, World.size_setCell, World.size_drew, Array.size_append]); omega) _))).at).mono ?_); rintro e w1 ⟨_, rfl, ⟨p3, pc3, q3, qc3, rfl, hv3⟩, hb⟩; obtain ⟨os3, n3, rfl⟩ := Below.moreE hb; clear hb)
  refine wp_gen (R := fun W' => Gr w.heap.size w W' ∧ Bx W' w.heap.size [.slice none 0 0, .slice none 0 0] ∧ Bx W' (w.heap.size + 1 + os1.size) [.slice p3 3 pc3, .slice q3 B.length qc3] ∧ w.heap.size < w.heap.size + 1 + os1.size ∧ ∃ lo hi, SpIn lo hi W' [3, 1, 0] p3 B q3 qc3 ∧ (hi ≤ w.heap.size + 1 + os1.size ∨ w.heap.size + 1 + os1.size < lo) ∧ w.heap.size < lo ∧ hi ≤ W'.heap.size) ⟨(by repeat (first | (with_reducible exact hG) | with_reducible refine Gr.alloc ?_ _ | with_reducible refine Gr.more ?_ _ _ | with_reducible refine Gr.setCell ?_ (by dsimp only; (try simp only [World.size_more, World.size_alloc, World.size_setCell, World.size_drew, Array.size_append]); omega) _ | with_reducible refine Gr.drew ?_)), Bx.mk2 (by go_simp) (by go_simp) (by go_simp) (by go_simp), Bx.mk2 (by go_simp) (by go_simp) (by go_simp) (by go_simp), (by (try simp only [World.size_more, World.size_alloc, World.size_setCell, World.size_drew, Array.size_append]); omega), _, _, hv3.of (fun hv => by repeat (first | (with_reducible exact hv) | with_reducible refine SpIn.alloc ?_ _ | with_reducible refine SpIn.more ?_ _ _ | with_reducible refine SpIn.set ?_ (by dsimp only; (try simp only [World.size_more, World.size_alloc, World.size_setCell, World.size_drew, Array.size_append]); omega) _)), (by (try simp only [World.size_more, World.size_alloc, World.size_setCell, World.size_drew, Array.size_append]); omega), (by (try simp only [World.size_more, World.size_alloc, World.size_setCell, World.size_drew, Array.size_append]); omega), (by (try simp only [World.size_more, World.size_alloc, World.size_setCell, World.size_drew, Array.size_append]); omega)⟩ ?_
  clear hG h0 h1 hlt hlo hlw hhi hv2 c0_0 c0_1 c1_0 c1_1 f0_0 f0_1 f1_0 f1_1 l0 l1 hz
  intro W3 hR
  obtain ⟨hG, h0, h1, hlt, lo, hi, hv3, hlo, hlw, hhi⟩ := hR
  have c0_0 := h0.get 0 _ rfl
  have c0_1 := h0.get 1 _ rfl
  have c1_0 := h1.get 0 _ rfl
  have c1_1 := h1.get 1 _ rfl
  have f0_0 := h0.fz 0 _ rfl
  have f0_1 := h0.fz 1 _ rfl
  have f1_0 := h1.fz 0 _ rfl
  have f1_1 := h1.fz 1 _ rfl
  have l0 := h0.lt
  have l1 := h1.lt
  have hz := hG.size
  go_upto_region 5 with (go_at_call 17; (refine (H4 _ _ _ _ _ (hv3.of (fun hv => by repeat (first | (with_reducible exact hv) | with_reducible refine SpIn.alloc ?_ _ | with_reducible refine SpIn.more ?_ _ _ | with_reducible refine SpIn.set ?_ (by dsimp only; (try simp only [World.size_more, World.size_alloc, World.size_setCell, World.size_drew, Array.size_append]); omega) _))).at).mono ?_); rintro e w1 ⟨_, rfl, ⟨p4, pc4, q4, qc4, rfl, hv4⟩, hb⟩; obtain ⟨os4, n4, rfl⟩ := Below.moreE hb; clear hb)
  refine wp_gen (R := fun W' => Gr w.heap.size w W' ∧ Bx W' w.heap.size [.slice none 0 0, .slice none 0 0] ∧ Bx W' (w.heap.size + 1 + os1.size) [.slice p4 3 pc4, .slice q4 B.length qc4] ∧ w.heap.size < w.heap.size + 1 + os1.size ∧ ∃ lo hi, SpIn lo hi W' [3, 1, 4] p4 B q4 qc4 ∧ (hi ≤ w.heap.size + 1 + os1.size ∨ w.heap.size + 1 + os1.size < lo) ∧ w.heap.size < lo ∧ hi ≤ W'.heap.size) ⟨(by repeat (first | (with_reducible exact hG) | with_reducible refine Gr.alloc ?_ _ | with_reducible refine Gr.more ?_ _ _ | with_reducible refine Gr.setCell ?_ (by dsimp only; (try simp only [World.size_more, World.size_alloc, World.size_setCell, World.size_drew, Array.size_append]); omega) _ | with_reducible refine Gr.drew ?_)), Bx.mk2 (by go_simp) (by go_simp) (by go_simp) (by go_simp), Bx.mk2 (by go_simp) (by go_simp) (by go_simp) (by go_simp), (by (try simp only [World.size_more, World.size_alloc, World.size_setCell, World.size_drew, Array.size_append]); omega), _, _, hv4.of (fun hv => by repeat (first | (with_reducible exact hv) | with_reducible refine SpIn.alloc ?_ _ | with_reducible refine SpIn.more ?_ _ _ | with_reducible refine SpIn.set ?_ (by dsimp only; (try simp only [World.size_more, World.size_alloc, World.size_setCell, World.size_drew, Array.size_append]); omega) _)), (by (try simp only [World.size_more, World.size_alloc, World.size_setCell, World.size_drew, Array.size_append]); omega), (by (try simp only [World.size_more, World.size_alloc, World.size_setCell, World.size_drew, Array.size_append]); omega), (by (try simp only [World.size_more, World.size_alloc, World.size_setCell, World.size_drew, Array.size_append]); omega)⟩ ?_
  clear hG h0 h1 hlt hlo hlw hhi hv3 c0_0 c0_1 c1_0 c1_1 f0_0 f0_1 f1_0 f1_1 l0 l1 hz
  intro W4 hR
  obtain ⟨hG, h0, h1, hlt, lo, hi, hv4, hlo, hlw, hhi⟩ := hR
  have c0_0 := h0.get 0 _ rfl
  have c0_1 := h0.get 1 _ rfl
  have c1_0 := h1.get 0 _ rfl
  have c1_1 := h1.get 1 _ rfl
  have f0_0 := h0.fz 0 _ rfl
  have f0_1 := h0.fz 1 _ rfl
  have f1_0 := h1.fz 0 _ rfl
  have f1_1 := h1.fz 1 _ rfl
  have l0 := h0.lt
  have l1 := h1.lt
  have hz := hG.size
  go_wp2_with fail
  refine bodyPost_ret (v := spV p4 3 pc4 q4 B.length qc4) (by simp [results, Try.results46, go_sem, *]) rfl ⟨_, rfl, ⟨p4, pc4, q4, qc4, rfl, ?_⟩, ?_⟩
  · exact (hv4.of (fun hv => by repeat (first | (with_reducible exact hv) | with_reducible refine SpIn.alloc ?_ _ | with_reducible refine SpIn.more ?_ _ _ | with_reducible refine SpIn.set ?_ (by dsimp only; (try simp only [World.size_more, World.size_alloc, World.size_setCell, World.size_drew, Array.size_append]); omega) _))).mono (by omega) (by (try simp only [World.size_more, World.size_alloc, World.size_setCell, World.size_drew, Array.size_append]); omega)
  · exact Gr.below (by repeat (first | (with_reducible exact hG) | with_reducible refine Gr.alloc ?_ _ | with_reducible refine Gr.more ?_ _ _ | with_reducible refine Gr.setCell ?_ (by dsimp only; (try simp only [World.size_more, World.size_alloc, World.size_setCell, World.size_drew, Array.size_append]); omega) _ | with_reducible refine Gr.drew ?_))
end Go.Proofs.Ytnapbpfofpaakaa

namespace Go.Proofs.Ytnapbpfofpaakaa
open Go.RowKit

/-- Region 1 of law3.sane. -/
noncomputable def sane_r1_code : Code := ((Try.f14.body).bind (Code.findR 1)).getD .skip
set_option maxRecDepth 100000 in
set_option maxHeartbeats 4000000 in
theorem sane_r1 {Q : Exit → Act → World → Prop} {u0 u1 u2 u3 u4 u5 u6 u7 u8 u9 u10 u11 u12 u13 u14 u15 u16 u17 u18 u19 u20 u21 u22 u23 u24 u25 u26 u27 u28 u29 u30 u31 u32 u33 u34 u35 u36 u37 u38 u39 u40 u41 u42 u43 u44 u45 u46 u47 u48 u49 u50 u51 u52 u53 u54 u55 u56 u57 u58 u59 u60 u61 u62 u63 u64 u65 u66 u67 u68 u69 u70 u71 u72 u73 u74 u75 u76 u77 u78 u79 u80 u81 u82 u83 u84 u85 u86 u87 u88 u89 u90 u91 u92 u93 u94 u95 u96 u97 u98 u99 u100 u101 u102 u103 u104 u105 u106 u107 u108 u109 u110 u111 u112 u113 u114 u115 u116 u117 u118 u119 u120 u121 u122 u123 u124 u125 u126 u127 u128 u129 u130 u131 u132 u133 u134 u135 u136 u137 u138 u139 u140 u141 u142 u143 : Value} {W : World} {P : List Int} {B : List UInt8}  (HX : ∀ w, Calls Try.prog 46 #[] w fun e w' => ∃ v, e = .returned v ∧ SpVal w.heap.size w' v P B ∧ Below w.heap.size w w') (hQ : ∀ (z25 : Value) (b1 : Nat) (W' : World), Gr W.heap.size W W' → W.heap.size ≤ b1 → SpBx W.heap.size W' b1 P B → Q .normal ⟨#[u0, .pointer (some ⟨b1, 0, none⟩), u2, u3, u4, u5, u6, u7, u8, u9, u10, u11, u12, u13, u14, u15, u16, u17, u18, u19, u20, u21, u22, u23, u24, z25, u26, u27, u28, u29, u30, u31, u32, u33, u34, u35, u36, u37, u38, u39, u40, u41, u42, u43, u44, u45, u46, u47, u48, u49, u50, u51, u52, u53, u54, u55, u56, u57, u58, u59, u60, u61, u62, u63, u64, u65, u66, u67, u68, u69, u70, u71, u72, u73, u74, u75, u76, u77, u78, u79, u80, u81, u82, u83, u84, u85, u86, u87, u88, u89, u90, u91, u92, u93, u94, u95, u96, u97, u98, u99, u100, u101, u102, u103, u104, u105, u106, u107, u108, u109, u110, u111, u112, u113, u114, u115, u116, u117, u118, u119, u120, u121, u122, u123, u124, u125, u126, u127, u128, u129, u130, u131, u132, u133, u134, u135, u136, u137, u138, u139, u140, u141, u142, u143], []⟩ W') : Code.wp Try.prog sane_r1_code Q ⟨#[u0, u1, u2, u3, u4, u5, u6, u7, u8, u9, u10, u11, u12, u13, u14, u15, u16, u17, u18, u19, u20, u21, u22, u23, u24, u25, u26, u27, u28, u29, u30, u31, u32, u33, u34, u35, u36, u37, u38, u39, u40, u41, u42, u43, u44, u45, u46, u47, u48, u49, u50, u51, u52, u53, u54, u55, u56, u57, u58, u59, u60, u61, u62, u63, u64, u65, u66, u67, u68, u69, u70, u71, u72, u73, u74, u75, u76, u77, u78, u79, u80, u81, u82, u83, u84, u85, u86, u87, u88, u89, u90, u91, u92, u93, u94, u95, u96, u97, u98, u99, u100, u101, u102, u103, u104, u105, u106, u107, u108, u109, u110, u111, u112, u113, u114, u115, u116, u117, u118, u119, u120, u121, u122, u123, u124, u125, u126, u127, u128, u129, u130, u131, u132, u133, u134, u135, u136, u137, u138, u139, u140, u141, u142, u143], []⟩ W := by
  conv => arg 2; whnf
  go_wp2_with first | (go_at_call 46; (refine (HX _).mono ?_); rintro e w1 ⟨_, rfl, ⟨pr, pcr, qr, qcr, rfl, hvr⟩, hb⟩; obtain ⟨os, n, rfl⟩ := Below.moreE hb; clear hb)
  exact hQ _ _ _ (by repeat (first | (with_reducible exact Gr.refl _) | with_reducible refine Gr.alloc ?_ _ | with_reducible refine Gr.more ?_ _ _ | with_reducible refine Gr.setCell ?_ (by dsimp only; (try simp only [World.size_more, World.size_alloc, World.size_setCell, World.size_drew, Array.size_append]); omega) _ | with_reducible refine Gr.drew ?_)) ((by (try simp only [World.size_more, World.size_alloc, World.size_setCell, World.size_drew, Array.size_append]); omega)) (⟨pr, pcr, qr, qcr, Bx.mk2 (by go_simp) (by go_simp) (by go_simp) (by go_simp), (hvr.up (by repeat (first | (with_reducible exact Gr.refl _) | with_reducible refine Gr.alloc ?_ _ | with_reducible refine Gr.more ?_ _ _ | with_reducible refine Gr.setCell ?_ (by dsimp only; (try simp only [World.size_more, World.size_alloc, World.size_setCell, World.size_drew, Array.size_append]); omega) _ | with_reducible refine Gr.drew ?_))).mono (by (try simp only [World.size_more, World.size_alloc, World.size_setCell, World.size_drew, Array.size_append]); omega) (by (try simp only [World.size_more, World.size_alloc, World.size_setCell, World.size_drew, Array.size_append]); omega)⟩)

/-- Region 2 of law3.sane. -/
noncomputable def sane_r2_code : Code := ((Try.f14.body).bind (Code.findR 2)).getD .skip
set_option maxRecDepth 100000 in
set_option maxHeartbeats 4000000 in
theorem sane_r2 {Q : Exit → Act → World → Prop} {u0 u1 u2 u3 u4 u5 u6 u7 u8 u9 u10 u11 u12 u13 u14 u15 u16 u17 u18 u19 u20 u21 u22 u23 u24 u25 u26 u27 u28 u29 u30 u31 u32 u33 u34 u35 u36 u37 u38 u39 u40 u41 u42 u43 u44 u45 u46 u47 u48 u49 u50 u51 u52 u53 u54 u55 u56 u57 u58 u59 u60 u61 u62 u63 u64 u65 u66 u67 u68 u69 u70 u71 u72 u73 u74 u75 u76 u77 u78 u79 u80 u81 u82 u83 u84 u85 u86 u87 u88 u89 u90 u91 u92 u93 u94 u95 u96 u97 u98 u99 u100 u101 u102 u103 u104 u105 u106 u107 u108 u109 u110 u111 u112 u113 u114 u115 u116 u117 u118 u119 u120 u121 u122 u123 u124 u125 u126 u127 u128 u129 u130 u131 u132 u133 u134 u135 u136 u137 u138 u139 u140 u141 u142 u143 : Value} {W : World}    (hQ : ∀ (z26 : Value) (b2 : Nat) (W' : World), Gr W.heap.size W W' → W.heap.size ≤ b2 → Bx W' b2 [.int .i64 4, .bool false] → Q .normal ⟨#[u0, u1, .pointer (some ⟨b2, 0, none⟩), u3, u4, u5, u6, u7, u8, u9, u10, u11, u12, u13, u14, u15, u16, u17, u18, u19, u20, u21, u22, u23, u24, u25, z26, u27, u28, u29, u30, u31, u32, u33, u34, u35, u36, u37, u38, u39, u40, u41, u42, u43, u44, u45, u46, u47, u48, u49, u50, u51, u52, u53, u54, u55, u56, u57, u58, u59, u60, u61, u62, u63, u64, u65, u66, u67, u68, u69, u70, u71, u72, u73, u74, u75, u76, u77, u78, u79, u80, u81, u82, u83, u84, u85, u86, u87, u88, u89, u90, u91, u92, u93, u94, u95, u96, u97, u98, u99, u100, u101, u102, u103, u104, u105, u106, u107, u108, u109, u110, u111, u112, u113, u114, u115, u116, u117, u118, u119, u120, u121, u122, u123, u124, u125, u126, u127, u128, u129, u130, u131, u132, u133, u134, u135, u136, u137, u138, u139, u140, u141, u142, u143], []⟩ W') : Code.wp Try.prog sane_r2_code Q ⟨#[u0, u1, u2, u3, u4, u5, u6, u7, u8, u9, u10, u11, u12, u13, u14, u15, u16, u17, u18, u19, u20, u21, u22, u23, u24, u25, u26, u27, u28, u29, u30, u31, u32, u33, u34, u35, u36, u37, u38, u39, u40, u41, u42, u43, u44, u45, u46, u47, u48, u49, u50, u51, u52, u53, u54, u55, u56, u57, u58, u59, u60, u61, u62, u63, u64, u65, u66, u67, u68, u69, u70, u71, u72, u73, u74, u75, u76, u77, u78, u79, u80, u81, u82, u83, u84, u85, u86, u87, u88, u89, u90, u91, u92, u93, u94, u95, u96, u97, u98, u99, u100, u101, u102, u103, u104, u105, u106, u107, u108, u109, u110, u111, u112, u113, u114, u115, u116, u117, u118, u119, u120, u121, u122, u123, u124, u125, u126, u127, u128, u129, u130, u131, u132, u133, u134, u135, u136, u137, u138, u139, u140, u141, u142, u143], []⟩ W := by
  conv => arg 2; whnf
  go_wp2_with fail
  exact hQ _ _ _ (by repeat (first | (with_reducible exact Gr.refl _) | with_reducible refine Gr.alloc ?_ _ | with_reducible refine Gr.more ?_ _ _ | with_reducible refine Gr.setCell ?_ (by dsimp only; (try simp only [World.size_more, World.size_alloc, World.size_setCell, World.size_drew, Array.size_append]); omega) _ | with_reducible refine Gr.drew ?_)) ((by (try simp only [World.size_more, World.size_alloc, World.size_setCell, World.size_drew, Array.size_append]); omega)) (Bx.mk2 (by go_simp) (by go_simp) (by go_simp) (by go_simp))

/-- Region 3 of law3.sane. -/
noncomputable def sane_r3_code : Code := ((Try.f14.body).bind (Code.findR 3)).getD .skip
set_option maxRecDepth 100000 in
set_option maxHeartbeats 4000000 in
theorem sane_r3 {Q : Exit → Act → World → Prop} {u0 u3 u4 u5 u6 u7 u8 u9 u10 u11 u12 u13 u14 u15 u16 u17 u18 u19 u20 u21 u22 u23 u24 u25 u26 u27 u28 u29 u30 u31 u32 u33 u34 u35 u36 u37 u38 u39 u40 u41 u42 u43 u44 u45 u46 u47 u48 u49 u50 u51 u52 u53 u54 u55 u56 u57 u58 u59 u60 u61 u62 u63 u64 u65 u66 u67 u68 u69 u70 u71 u72 u73 u74 u75 u76 u77 u78 u79 u80 u81 u82 u83 u84 u85 u86 u87 u88 u89 u90 u91 u92 u93 u94 u95 u96 u97 u98 u99 u100 u101 u102 u103 u104 u105 u106 u107 u108 u109 u110 u111 u112 u113 u114 u115 u116 u117 u118 u119 u120 u121 u122 u123 u124 u125 u126 u127 u128 u129 u130 u131 u132 u133 u134 u135 u136 u137 u138 u139 u140 u141 u142 u143 : Value} {W : World} {b1 b2 : Nat} {P P1 : List Int} {B B1 : List UInt8} {K A E : Int} {lo1 : Nat} (h1 : SpBx lo1 W b1 P B) (h2 : Bx W b2 [.int .i64 4, .bool false]) (HX : CStore P B 60 4 false 258 P1 B1 K A E) (hQ : ∀ (z28 z29 z30 z27 z31 z32 z33 : Value) (b3 b4 : Nat) (W' : World), Gr W.heap.size W W' → W.heap.size ≤ b3 → SpBx W.heap.size W' b3 P1 B1 → W.heap.size ≤ b4 → Bx W' b4 [.int .i64 K, .int .i64 A] → Q .normal ⟨#[u0, .pointer (some ⟨b1, 0, none⟩), .pointer (some ⟨b2, 0, none⟩), .pointer (some ⟨b3, 0, none⟩), .pointer (some ⟨b4, 0, none⟩), .int .i64 E, u6, u7, u8, u9, u10, u11, u12, u13, u14, u15, u16, u17, u18, u19, u20, u21, u22, u23, u24, u25, u26, z27, z28, z29, z30, z31, z32, z33, u34, u35, u36, u37, u38, u39, u40, u41, u42, u43, u44, u45, u46, u47, u48, u49, u50, u51, u52, u53, u54, u55, u56, u57, u58, u59, u60, u61, u62, u63, u64, u65, u66, u67, u68, u69, u70, u71, u72, u73, u74, u75, u76, u77, u78, u79, u80, u81, u82, u83, u84, u85, u86, u87, u88, u89, u90, u91, u92, u93, u94, u95, u96, u97, u98, u99, u100, u101, u102, u103, u104, u105, u106, u107, u108, u109, u110, u111, u112, u113, u114, u115, u116, u117, u118, u119, u120, u121, u122, u123, u124, u125, u126, u127, u128, u129, u130, u131, u132, u133, u134, u135, u136, u137, u138, u139, u140, u141, u142, u143], []⟩ W') : Code.wp Try.prog sane_r3_code Q ⟨#[u0, .pointer (some ⟨b1, 0, none⟩), .pointer (some ⟨b2, 0, none⟩), u3, u4, u5, u6, u7, u8, u9, u10, u11, u12, u13, u14, u15, u16, u17, u18, u19, u20, u21, u22, u23, u24, u25, u26, u27, u28, u29, u30, u31, u32, u33, u34, u35, u36, u37, u38, u39, u40, u41, u42, u43, u44, u45, u46, u47, u48, u49, u50, u51, u52, u53, u54, u55, u56, u57, u58, u59, u60, u61, u62, u63, u64, u65, u66, u67, u68, u69, u70, u71, u72, u73, u74, u75, u76, u77, u78, u79, u80, u81, u82, u83, u84, u85, u86, u87, u88, u89, u90, u91, u92, u93, u94, u95, u96, u97, u98, u99, u100, u101, u102, u103, u104, u105, u106, u107, u108, u109, u110, u111, u112, u113, u114, u115, u116, u117, u118, u119, u120, u121, u122, u123, u124, u125, u126, u127, u128, u129, u130, u131, u132, u133, u134, u135, u136, u137, u138, u139, u140, u141, u142, u143], []⟩ W := by
  obtain ⟨p1, pc1, q1, qc1, x1, s1⟩ := h1
  have c1_0 := x1.get 0 _ rfl
  have c1_1 := x1.get 1 _ rfl
  have l1 := x1.lt
  have c2_0 := h2.get 0 _ rfl
  have c2_1 := h2.get 1 _ rfl
  have l2 := h2.lt
  conv => arg 2; whnf
  go_wp2_with first | (go_at_call 34; (refine (HX _ _ _ _ _ (s1.at.up (Gr.below (by repeat (first | (with_reducible exact Gr.refl _) | with_reducible refine Gr.alloc ?_ _ | with_reducible refine Gr.more ?_ _ _ | with_reducible refine Gr.setCell ?_ (by dsimp only; (try simp only [World.size_more, World.size_alloc, World.size_setCell, World.size_drew, Array.size_append]); omega) _ | with_reducible refine Gr.drew ?_))))).mono ?_); rintro e w1 ⟨_, rfl, ⟨pr, pcr, qr, qcr, rfl, hvr⟩, hb⟩; obtain ⟨os, n, rfl⟩ := Below.moreE hb; clear hb)
  exact hQ _ _ _ _ _ _ _ _ _ _ (by repeat (first | (with_reducible exact Gr.refl _) | with_reducible refine Gr.alloc ?_ _ | with_reducible refine Gr.more ?_ _ _ | with_reducible refine Gr.setCell ?_ (by dsimp only; (try simp only [World.size_more, World.size_alloc, World.size_setCell, World.size_drew, Array.size_append]); omega) _ | with_reducible refine Gr.drew ?_)) ((by (try simp only [World.size_more, World.size_alloc, World.size_setCell, World.size_drew, Array.size_append]); omega)) (⟨pr, pcr, qr, qcr, Bx.mk2 (by go_simp) (by go_simp) (by go_simp) (by go_simp), (hvr.up (by repeat (first | (with_reducible exact Gr.refl _) | with_reducible refine Gr.alloc ?_ _ | with_reducible refine Gr.more ?_ _ _ | with_reducible refine Gr.setCell ?_ (by dsimp only; (try simp only [World.size_more, World.size_alloc, World.size_setCell, World.size_drew, Array.size_append]); omega) _ | with_reducible refine Gr.drew ?_))).mono (by (try simp only [World.size_more, World.size_alloc, World.size_setCell, World.size_drew, Array.size_append]); omega) (by (try simp only [World.size_more, World.size_alloc, World.size_setCell, World.size_drew, Array.size_append]); omega)⟩) ((by (try simp only [World.size_more, World.size_alloc, World.size_setCell, World.size_drew, Array.size_append]); omega)) (Bx.mk2 (by go_simp) (by go_simp) (by go_simp) (by go_simp))

/-- Region 4 of law3.sane. -/
noncomputable def sane_r4_code : Code := ((Try.f14.body).bind (Code.findR 4)).getD .skip
set_option maxRecDepth 100000 in
set_option maxHeartbeats 4000000 in
theorem sane_r4 {Q : Exit → Act → World → Prop} {u0 u1 u4 u5 u6 u7 u8 u9 u10 u11 u12 u13 u14 u15 u16 u17 u18 u19 u20 u21 u22 u23 u24 u25 u26 u27 u28 u29 u30 u31 u32 u33 u34 u35 u36 u37 u38 u39 u40 u41 u42 u43 u44 u45 u46 u47 u48 u49 u50 u51 u52 u53 u54 u55 u56 u57 u58 u59 u60 u61 u62 u63 u64 u65 u66 u67 u68 u69 u70 u71 u72 u73 u74 u75 u76 u77 u78 u79 u80 u81 u82 u83 u84 u85 u86 u87 u88 u89 u90 u91 u92 u93 u94 u95 u96 u97 u98 u99 u100 u101 u102 u103 u104 u105 u106 u107 u108 u109 u110 u111 u112 u113 u114 u115 u116 u117 u118 u119 u120 u121 u122 u123 u124 u125 u126 u127 u128 u129 u130 u131 u132 u133 u134 u135 u136 u137 u138 u139 u140 u141 u142 u143 : Value} {W : World} {b3 b2 : Nat} {P : List Int} {B : List UInt8} {V K A E : Int} {lo3 : Nat} (h3 : SpBx lo3 W b3 P B) (h2 : Bx W b2 [.int .i64 4, .bool false]) (HX : CLoad P B 60 4 false V K A E) (hQ : ∀ (z35 z36 z37 z34 z38 z39 z40 : Value) (b7 : Nat) (W' : World), Gr W.heap.size W W' → W.heap.size ≤ b7 → Bx W' b7 [.int .i64 K, .int .i64 A] → Q .normal ⟨#[u0, u1, .pointer (some ⟨b2, 0, none⟩), .pointer (some ⟨b3, 0, none⟩), u4, u5, .int .i64 V, .pointer (some ⟨b7, 0, none⟩), .int .i64 E, u9, u10, u11, u12, u13, u14, u15, u16, u17, u18, u19, u20, u21, u22, u23, u24, u25, u26, u27, u28, u29, u30, u31, u32, u33, z34, z35, z36, z37, z38, z39, z40, u41, u42, u43, u44, u45, u46, u47, u48, u49, u50, u51, u52, u53, u54, u55, u56, u57, u58, u59, u60, u61, u62, u63, u64, u65, u66, u67, u68, u69, u70, u71, u72, u73, u74, u75, u76, u77, u78, u79, u80, u81, u82, u83, u84, u85, u86, u87, u88, u89, u90, u91, u92, u93, u94, u95, u96, u97, u98, u99, u100, u101, u102, u103, u104, u105, u106, u107, u108, u109, u110, u111, u112, u113, u114, u115, u116, u117, u118, u119, u120, u121, u122, u123, u124, u125, u126, u127, u128, u129, u130, u131, u132, u133, u134, u135, u136, u137, u138, u139, u140, u141, u142, u143], []⟩ W') : Code.wp Try.prog sane_r4_code Q ⟨#[u0, u1, .pointer (some ⟨b2, 0, none⟩), .pointer (some ⟨b3, 0, none⟩), u4, u5, u6, u7, u8, u9, u10, u11, u12, u13, u14, u15, u16, u17, u18, u19, u20, u21, u22, u23, u24, u25, u26, u27, u28, u29, u30, u31, u32, u33, u34, u35, u36, u37, u38, u39, u40, u41, u42, u43, u44, u45, u46, u47, u48, u49, u50, u51, u52, u53, u54, u55, u56, u57, u58, u59, u60, u61, u62, u63, u64, u65, u66, u67, u68, u69, u70, u71, u72, u73, u74, u75, u76, u77, u78, u79, u80, u81, u82, u83, u84, u85, u86, u87, u88, u89, u90, u91, u92, u93, u94, u95, u96, u97, u98, u99, u100, u101, u102, u103, u104, u105, u106, u107, u108, u109, u110, u111, u112, u113, u114, u115, u116, u117, u118, u119, u120, u121, u122, u123, u124, u125, u126, u127, u128, u129, u130, u131, u132, u133, u134, u135, u136, u137, u138, u139, u140, u141, u142, u143], []⟩ W := by
  obtain ⟨p3, pc3, q3, qc3, x3, s3⟩ := h3
  have c3_0 := x3.get 0 _ rfl
  have c3_1 := x3.get 1 _ rfl
  have l3 := x3.lt
  have c2_0 := h2.get 0 _ rfl
  have c2_1 := h2.get 1 _ rfl
  have l2 := h2.lt
  conv => arg 2; whnf
  go_wp2_with first | (go_at_call 33; (refine (HX _ _ _ _ _ (s3.at.up (Gr.below (by repeat (first | (with_reducible exact Gr.refl _) | with_reducible refine Gr.alloc ?_ _ | with_reducible refine Gr.more ?_ _ _ | with_reducible refine Gr.setCell ?_ (by dsimp only; (try simp only [World.size_more, World.size_alloc, World.size_setCell, World.size_drew, Array.size_append]); omega) _ | with_reducible refine Gr.drew ?_))))).mono ?_); rintro e w1 ⟨rfl, hb⟩; obtain ⟨os, n, rfl⟩ := Below.moreE hb; clear hb)
  exact hQ _ _ _ _ _ _ _ _ _ (by repeat (first | (with_reducible exact Gr.refl _) | with_reducible refine Gr.alloc ?_ _ | with_reducible refine Gr.more ?_ _ _ | with_reducible refine Gr.setCell ?_ (by dsimp only; (try simp only [World.size_more, World.size_alloc, World.size_setCell, World.size_drew, Array.size_append]); omega) _ | with_reducible refine Gr.drew ?_)) ((by (try simp only [World.size_more, World.size_alloc, World.size_setCell, World.size_drew, Array.size_append]); omega)) (Bx.mk2 (by go_simp) (by go_simp) (by go_simp) (by go_simp))

/-- Region 5 of law3.sane. -/
noncomputable def sane_r5_code : Code := ((Try.f14.body).bind (Code.findR 5)).getD .skip
set_option maxRecDepth 100000 in
set_option maxHeartbeats 4000000 in
theorem sane_r5 {Q : Exit → Act → World → Prop} {u0 u3 u4 u5 u6 u7 u8 u9 u10 u11 u12 u13 u14 u15 u16 u17 u18 u19 u20 u21 u22 u23 u24 u25 u26 u27 u28 u29 u30 u31 u32 u33 u34 u35 u36 u37 u38 u39 u40 u41 u42 u43 u44 u45 u46 u47 u48 u49 u50 u51 u52 u53 u54 u55 u56 u57 u58 u59 u60 u61 u62 u63 u64 u65 u66 u67 u68 u69 u70 u71 u72 u73 u74 u75 u76 u77 u78 u79 u80 u81 u82 u83 u84 u85 u86 u87 u88 u89 u90 u91 u92 u93 u94 u95 u96 u97 u98 u99 u100 u101 u102 u103 u104 u105 u106 u107 u108 u109 u110 u111 u112 u113 u114 u115 u116 u117 u118 u119 u120 u121 u122 u123 u124 u125 u126 u127 u128 u129 u130 u131 u132 u133 u134 u135 u136 u137 u138 u139 u140 u141 u142 u143 : Value} {W : World} {b1 b2 : Nat} {P P1 : List Int} {B B1 : List UInt8} {K A E : Int} {lo1 : Nat} (h1 : SpBx lo1 W b1 P B) (h2 : Bx W b2 [.int .i64 4, .bool false]) (HX : CStore P B 62 4 false 1 P1 B1 K A E) (hQ : ∀ (z42 z43 z44 z41 z45 z46 z47 : Value) (b9 b10 : Nat) (W' : World), Gr W.heap.size W W' → W.heap.size ≤ b9 → SpBx W.heap.size W' b9 P1 B1 → W.heap.size ≤ b10 → Bx W' b10 [.int .i64 K, .int .i64 A] → Q .normal ⟨#[u0, .pointer (some ⟨b1, 0, none⟩), .pointer (some ⟨b2, 0, none⟩), u3, u4, u5, u6, u7, u8, .pointer (some ⟨b9, 0, none⟩), .pointer (some ⟨b10, 0, none⟩), .int .i64 E, u12, u13, u14, u15, u16, u17, u18, u19, u20, u21, u22, u23, u24, u25, u26, u27, u28, u29, u30, u31, u32, u33, u34, u35, u36, u37, u38, u39, u40, z41, z42, z43, z44, z45, z46, z47, u48, u49, u50, u51, u52, u53, u54, u55, u56, u57, u58, u59, u60, u61, u62, u63, u64, u65, u66, u67, u68, u69, u70, u71, u72, u73, u74, u75, u76, u77, u78, u79, u80, u81, u82, u83, u84, u85, u86, u87, u88, u89, u90, u91, u92, u93, u94, u95, u96, u97, u98, u99, u100, u101, u102, u103, u104, u105, u106, u107, u108, u109, u110, u111, u112, u113, u114, u115, u116, u117, u118, u119, u120, u121, u122, u123, u124, u125, u126, u127, u128, u129, u130, u131, u132, u133, u134, u135, u136, u137, u138, u139, u140, u141, u142, u143], []⟩ W') : Code.wp Try.prog sane_r5_code Q ⟨#[u0, .pointer (some ⟨b1, 0, none⟩), .pointer (some ⟨b2, 0, none⟩), u3, u4, u5, u6, u7, u8, u9, u10, u11, u12, u13, u14, u15, u16, u17, u18, u19, u20, u21, u22, u23, u24, u25, u26, u27, u28, u29, u30, u31, u32, u33, u34, u35, u36, u37, u38, u39, u40, u41, u42, u43, u44, u45, u46, u47, u48, u49, u50, u51, u52, u53, u54, u55, u56, u57, u58, u59, u60, u61, u62, u63, u64, u65, u66, u67, u68, u69, u70, u71, u72, u73, u74, u75, u76, u77, u78, u79, u80, u81, u82, u83, u84, u85, u86, u87, u88, u89, u90, u91, u92, u93, u94, u95, u96, u97, u98, u99, u100, u101, u102, u103, u104, u105, u106, u107, u108, u109, u110, u111, u112, u113, u114, u115, u116, u117, u118, u119, u120, u121, u122, u123, u124, u125, u126, u127, u128, u129, u130, u131, u132, u133, u134, u135, u136, u137, u138, u139, u140, u141, u142, u143], []⟩ W := by
  obtain ⟨p1, pc1, q1, qc1, x1, s1⟩ := h1
  have c1_0 := x1.get 0 _ rfl
  have c1_1 := x1.get 1 _ rfl
  have l1 := x1.lt
  have c2_0 := h2.get 0 _ rfl
  have c2_1 := h2.get 1 _ rfl
  have l2 := h2.lt
  conv => arg 2; whnf
  go_wp2_with first | (go_at_call 34; (refine (HX _ _ _ _ _ (s1.at.up (Gr.below (by repeat (first | (with_reducible exact Gr.refl _) | with_reducible refine Gr.alloc ?_ _ | with_reducible refine Gr.more ?_ _ _ | with_reducible refine Gr.setCell ?_ (by dsimp only; (try simp only [World.size_more, World.size_alloc, World.size_setCell, World.size_drew, Array.size_append]); omega) _ | with_reducible refine Gr.drew ?_))))).mono ?_); rintro e w1 ⟨_, rfl, ⟨pr, pcr, qr, qcr, rfl, hvr⟩, hb⟩; obtain ⟨os, n, rfl⟩ := Below.moreE hb; clear hb)
  exact hQ _ _ _ _ _ _ _ _ _ _ (by repeat (first | (with_reducible exact Gr.refl _) | with_reducible refine Gr.alloc ?_ _ | with_reducible refine Gr.more ?_ _ _ | with_reducible refine Gr.setCell ?_ (by dsimp only; (try simp only [World.size_more, World.size_alloc, World.size_setCell, World.size_drew, Array.size_append]); omega) _ | with_reducible refine Gr.drew ?_)) ((by (try simp only [World.size_more, World.size_alloc, World.size_setCell, World.size_drew, Array.size_append]); omega)) (⟨pr, pcr, qr, qcr, Bx.mk2 (by go_simp) (by go_simp) (by go_simp) (by go_simp), (hvr.up (by repeat (first | (with_reducible exact Gr.refl _) | with_reducible refine Gr.alloc ?_ _ | with_reducible refine Gr.more ?_ _ _ | with_reducible refine Gr.setCell ?_ (by dsimp only; (try simp only [World.size_more, World.size_alloc, World.size_setCell, World.size_drew, Array.size_append]); omega) _ | with_reducible refine Gr.drew ?_))).mono (by (try simp only [World.size_more, World.size_alloc, World.size_setCell, World.size_drew, Array.size_append]); omega) (by (try simp only [World.size_more, World.size_alloc, World.size_setCell, World.size_drew, Array.size_append]); omega)⟩) ((by (try simp only [World.size_more, World.size_alloc, World.size_setCell, World.size_drew, Array.size_append]); omega)) (Bx.mk2 (by go_simp) (by go_simp) (by go_simp) (by go_simp))

/-- Region 6 of law3.sane. -/
noncomputable def sane_r6_code : Code := ((Try.f14.body).bind (Code.findR 6)).getD .skip
set_option maxRecDepth 100000 in
set_option maxHeartbeats 4000000 in
theorem sane_r6 {Q : Exit → Act → World → Prop} {u0 u3 u4 u5 u6 u7 u8 u9 u10 u11 u12 u13 u14 u15 u16 u17 u18 u19 u20 u21 u22 u23 u24 u25 u26 u27 u28 u29 u30 u31 u32 u33 u34 u35 u36 u37 u38 u39 u40 u41 u42 u43 u44 u45 u46 u47 u48 u49 u50 u51 u52 u53 u54 u55 u56 u57 u58 u59 u60 u61 u62 u63 u64 u65 u66 u67 u68 u69 u70 u71 u72 u73 u74 u75 u76 u77 u78 u79 u80 u81 u82 u83 u84 u85 u86 u87 u88 u89 u90 u91 u92 u93 u94 u95 u96 u97 u98 u99 u100 u101 u102 u103 u104 u105 u106 u107 u108 u109 u110 u111 u112 u113 u114 u115 u116 u117 u118 u119 u120 u121 u122 u123 u124 u125 u126 u127 u128 u129 u130 u131 u132 u133 u134 u135 u136 u137 u138 u139 u140 u141 u142 u143 : Value} {W : World} {b1 b2 : Nat} {P : List Int} {B : List UInt8} {V K A E : Int} {lo1 : Nat} (h1 : SpBx lo1 W b1 P B) (h2 : Bx W b2 [.int .i64 4, .bool false]) (HX : CLoad P B 126 4 false V K A E) (hQ : ∀ (z49 z50 z51 z48 z52 z53 z54 : Value) (b13 : Nat) (W' : World), Gr W.heap.size W W' → W.heap.size ≤ b13 → Bx W' b13 [.int .i64 K, .int .i64 A] → Q .normal ⟨#[u0, .pointer (some ⟨b1, 0, none⟩), .pointer (some ⟨b2, 0, none⟩), u3, u4, u5, u6, u7, u8, u9, u10, u11, .int .i64 V, .pointer (some ⟨b13, 0, none⟩), .int .i64 E, u15, u16, u17, u18, u19, u20, u21, u22, u23, u24, u25, u26, u27, u28, u29, u30, u31, u32, u33, u34, u35, u36, u37, u38, u39, u40, u41, u42, u43, u44, u45, u46, u47, z48, z49, z50, z51, z52, z53, z54, u55, u56, u57, u58, u59, u60, u61, u62, u63, u64, u65, u66, u67, u68, u69, u70, u71, u72, u73, u74, u75, u76, u77, u78, u79, u80, u81, u82, u83, u84, u85, u86, u87, u88, u89, u90, u91, u92, u93, u94, u95, u96, u97, u98, u99, u100, u101, u102, u103, u104, u105, u106, u107, u108, u109, u110, u111, u112, u113, u114, u115, u116, u117, u118, u119, u120, u121, u122, u123, u124, u125, u126, u127, u128, u129, u130, u131, u132, u133, u134, u135, u136, u137, u138, u139, u140, u141, u142, u143], []⟩ W') : Code.wp Try.prog sane_r6_code Q ⟨#[u0, .pointer (some ⟨b1, 0, none⟩), .pointer (some ⟨b2, 0, none⟩), u3, u4, u5, u6, u7, u8, u9, u10, u11, u12, u13, u14, u15, u16, u17, u18, u19, u20, u21, u22, u23, u24, u25, u26, u27, u28, u29, u30, u31, u32, u33, u34, u35, u36, u37, u38, u39, u40, u41, u42, u43, u44, u45, u46, u47, u48, u49, u50, u51, u52, u53, u54, u55, u56, u57, u58, u59, u60, u61, u62, u63, u64, u65, u66, u67, u68, u69, u70, u71, u72, u73, u74, u75, u76, u77, u78, u79, u80, u81, u82, u83, u84, u85, u86, u87, u88, u89, u90, u91, u92, u93, u94, u95, u96, u97, u98, u99, u100, u101, u102, u103, u104, u105, u106, u107, u108, u109, u110, u111, u112, u113, u114, u115, u116, u117, u118, u119, u120, u121, u122, u123, u124, u125, u126, u127, u128, u129, u130, u131, u132, u133, u134, u135, u136, u137, u138, u139, u140, u141, u142, u143], []⟩ W := by
  obtain ⟨p1, pc1, q1, qc1, x1, s1⟩ := h1
  have c1_0 := x1.get 0 _ rfl
  have c1_1 := x1.get 1 _ rfl
  have l1 := x1.lt
  have c2_0 := h2.get 0 _ rfl
  have c2_1 := h2.get 1 _ rfl
  have l2 := h2.lt
  conv => arg 2; whnf
  go_wp2_with first | (go_at_call 33; (refine (HX _ _ _ _ _ (s1.at.up (Gr.below (by repeat (first | (with_reducible exact Gr.refl _) | with_reducible refine Gr.alloc ?_ _ | with_reducible refine Gr.more ?_ _ _ | with_reducible refine Gr.setCell ?_ (by dsimp only; (try simp only [World.size_more, World.size_alloc, World.size_setCell, World.size_drew, Array.size_append]); omega) _ | with_reducible refine Gr.drew ?_))))).mono ?_); rintro e w1 ⟨rfl, hb⟩; obtain ⟨os, n, rfl⟩ := Below.moreE hb; clear hb)
  exact hQ _ _ _ _ _ _ _ _ _ (by repeat (first | (with_reducible exact Gr.refl _) | with_reducible refine Gr.alloc ?_ _ | with_reducible refine Gr.more ?_ _ _ | with_reducible refine Gr.setCell ?_ (by dsimp only; (try simp only [World.size_more, World.size_alloc, World.size_setCell, World.size_drew, Array.size_append]); omega) _ | with_reducible refine Gr.drew ?_)) ((by (try simp only [World.size_more, World.size_alloc, World.size_setCell, World.size_drew, Array.size_append]); omega)) (Bx.mk2 (by go_simp) (by go_simp) (by go_simp) (by go_simp))

/-- Region 7 of law3.sane. -/
noncomputable def sane_r7_code : Code := ((Try.f14.body).bind (Code.findR 7)).getD .skip
set_option maxRecDepth 100000 in
set_option maxHeartbeats 4000000 in
theorem sane_r7 {Q : Exit → Act → World → Prop} {u0 u2 u3 u4 u5 u6 u7 u8 u9 u10 u11 u12 u13 u14 u15 u16 u17 u18 u19 u20 u21 u22 u23 u24 u25 u26 u27 u28 u29 u30 u31 u32 u33 u34 u35 u36 u37 u38 u39 u40 u41 u42 u43 u44 u45 u46 u47 u48 u49 u50 u51 u52 u53 u54 u55 u56 u57 u58 u59 u60 u61 u62 u63 u64 u65 u66 u67 u68 u69 u70 u71 u72 u73 u74 u75 u76 u77 u78 u79 u80 u81 u82 u83 u84 u85 u86 u87 u88 u89 u90 u91 u92 u93 u94 u95 u96 u97 u98 u99 u100 u101 u102 u103 u104 u105 u106 u107 u108 u109 u110 u111 u112 u113 u114 u115 u116 u117 u118 u119 u120 u121 u122 u123 u124 u125 u126 u127 u128 u129 u130 u131 u132 u133 u134 u135 u136 u137 u138 u139 u140 u141 u142 u143 : Value} {W : World} {b1 : Nat} {P : List Int} {B : List UInt8} {X : List UInt8} {E : Int} {lo1 : Nat} (h1 : SpBx lo1 W b1 P B) (HX : CFetch P B 190 4 X E) (hQ : ∀ (z56 z57 z55 z58 z59 y15 : Value) (W' : World), Gr W.heap.size W W' → SqVal W.heap.size W' y15 X → Q .normal ⟨#[u0, .pointer (some ⟨b1, 0, none⟩), u2, u3, u4, u5, u6, u7, u8, u9, u10, u11, u12, u13, u14, y15, .int .i64 E, u17, u18, u19, u20, u21, u22, u23, u24, u25, u26, u27, u28, u29, u30, u31, u32, u33, u34, u35, u36, u37, u38, u39, u40, u41, u42, u43, u44, u45, u46, u47, u48, u49, u50, u51, u52, u53, u54, z55, z56, z57, z58, z59, u60, u61, u62, u63, u64, u65, u66, u67, u68, u69, u70, u71, u72, u73, u74, u75, u76, u77, u78, u79, u80, u81, u82, u83, u84, u85, u86, u87, u88, u89, u90, u91, u92, u93, u94, u95, u96, u97, u98, u99, u100, u101, u102, u103, u104, u105, u106, u107, u108, u109, u110, u111, u112, u113, u114, u115, u116, u117, u118, u119, u120, u121, u122, u123, u124, u125, u126, u127, u128, u129, u130, u131, u132, u133, u134, u135, u136, u137, u138, u139, u140, u141, u142, u143], []⟩ W') : Code.wp Try.prog sane_r7_code Q ⟨#[u0, .pointer (some ⟨b1, 0, none⟩), u2, u3, u4, u5, u6, u7, u8, u9, u10, u11, u12, u13, u14, u15, u16, u17, u18, u19, u20, u21, u22, u23, u24, u25, u26, u27, u28, u29, u30, u31, u32, u33, u34, u35, u36, u37, u38, u39, u40, u41, u42, u43, u44, u45, u46, u47, u48, u49, u50, u51, u52, u53, u54, u55, u56, u57, u58, u59, u60, u61, u62, u63, u64, u65, u66, u67, u68, u69, u70, u71, u72, u73, u74, u75, u76, u77, u78, u79, u80, u81, u82, u83, u84, u85, u86, u87, u88, u89, u90, u91, u92, u93, u94, u95, u96, u97, u98, u99, u100, u101, u102, u103, u104, u105, u106, u107, u108, u109, u110, u111, u112, u113, u114, u115, u116, u117, u118, u119, u120, u121, u122, u123, u124, u125, u126, u127, u128, u129, u130, u131, u132, u133, u134, u135, u136, u137, u138, u139, u140, u141, u142, u143], []⟩ W := by
  obtain ⟨p1, pc1, q1, qc1, x1, s1⟩ := h1
  have c1_0 := x1.get 0 _ rfl
  have c1_1 := x1.get 1 _ rfl
  have l1 := x1.lt
  conv => arg 2; whnf
  go_wp2_with first | (go_at_call 26; (refine (HX _ _ _ _ _ (s1.at.up (Gr.below (by repeat (first | (with_reducible exact Gr.refl _) | with_reducible refine Gr.alloc ?_ _ | with_reducible refine Gr.more ?_ _ _ | with_reducible refine Gr.setCell ?_ (by dsimp only; (try simp only [World.size_more, World.size_alloc, World.size_setCell, World.size_drew, Array.size_append]); omega) _ | with_reducible refine Gr.drew ?_))))).mono ?_); rintro e w1 ⟨_, rfl, ⟨pr, pcr, rfl, hvr⟩, hb⟩; obtain ⟨os, n, rfl⟩ := Below.moreE hb; clear hb)
  exact hQ _ _ _ _ _ _ _ (by repeat (first | (with_reducible exact Gr.refl _) | with_reducible refine Gr.alloc ?_ _ | with_reducible refine Gr.more ?_ _ _ | with_reducible refine Gr.setCell ?_ (by dsimp only; (try simp only [World.size_more, World.size_alloc, World.size_setCell, World.size_drew, Array.size_append]); omega) _ | with_reducible refine Gr.drew ?_)) (⟨pr, pcr, rfl, (hvr.up (by repeat (first | (with_reducible exact Gr.refl _) | with_reducible refine Gr.alloc ?_ _ | with_reducible refine Gr.more ?_ _ _ | with_reducible refine Gr.setCell ?_ (by dsimp only; (try simp only [World.size_more, World.size_alloc, World.size_setCell, World.size_drew, Array.size_append]); omega) _ | with_reducible refine Gr.drew ?_))).mono (by (try simp only [World.size_more, World.size_alloc, World.size_setCell, World.size_drew, Array.size_append]); omega) (by (try simp only [World.size_more, World.size_alloc, World.size_setCell, World.size_drew, Array.size_append]); omega)⟩)

/-- Region 8 of law3.sane. -/
noncomputable def sane_r8_code : Code := ((Try.f14.body).bind (Code.findR 8)).getD .skip
set_option maxRecDepth 100000 in
set_option maxHeartbeats 4000000 in
theorem sane_r8 {Q : Exit → Act → World → Prop} {u0 u2 u3 u4 u5 u6 u7 u8 u9 u10 u11 u12 u13 u14 u15 u16 u17 u18 u19 u20 u21 u22 u23 u24 u25 u26 u27 u28 u29 u30 u31 u32 u33 u34 u35 u36 u37 u38 u39 u40 u41 u42 u43 u44 u45 u46 u47 u48 u49 u50 u51 u52 u53 u54 u55 u56 u57 u58 u59 u60 u61 u62 u63 u64 u65 u66 u67 u68 u69 u70 u71 u72 u73 u74 u75 u76 u77 u78 u79 u80 u81 u82 u83 u84 u85 u86 u87 u88 u89 u90 u91 u92 u93 u94 u95 u96 u97 u98 u99 u100 u101 u102 u103 u104 u105 u106 u107 u108 u109 u110 u111 u112 u113 u114 u115 u116 u117 u118 u119 u120 u121 u122 u123 u124 u125 u126 u127 u128 u129 u130 u131 u132 u133 u134 u135 u136 u137 u138 u139 u140 u141 u142 u143 : Value} {W : World} {b1 : Nat} {P : List Int} {B : List UInt8} {X : List UInt8} {K A E : Int} {lo1 : Nat} (h1 : SpBx lo1 W b1 P B) (HX : CPeek P B 190 4 X K A E) (hQ : ∀ (z61 z62 z60 z63 z64 z65 y17 : Value) (b18 : Nat) (W' : World), Gr W.heap.size W W' → W.heap.size ≤ b18 → Bx W' b18 [.int .i64 K, .int .i64 A] → SqVal W.heap.size W' y17 X → Q .normal ⟨#[u0, .pointer (some ⟨b1, 0, none⟩), u2, u3, u4, u5, u6, u7, u8, u9, u10, u11, u12, u13, u14, u15, u16, y17, .pointer (some ⟨b18, 0, none⟩), .int .i64 E, u20, u21, u22, u23, u24, u25, u26, u27, u28, u29, u30, u31, u32, u33, u34, u35, u36, u37, u38, u39, u40, u41, u42, u43, u44, u45, u46, u47, u48, u49, u50, u51, u52, u53, u54, u55, u56, u57, u58, u59, z60, z61, z62, z63, z64, z65, u66, u67, u68, u69, u70, u71, u72, u73, u74, u75, u76, u77, u78, u79, u80, u81, u82, u83, u84, u85, u86, u87, u88, u89, u90, u91, u92, u93, u94, u95, u96, u97, u98, u99, u100, u101, u102, u103, u104, u105, u106, u107, u108, u109, u110, u111, u112, u113, u114, u115, u116, u117, u118, u119, u120, u121, u122, u123, u124, u125, u126, u127, u128, u129, u130, u131, u132, u133, u134, u135, u136, u137, u138, u139, u140, u141, u142, u143], []⟩ W') : Code.wp Try.prog sane_r8_code Q ⟨#[u0, .pointer (some ⟨b1, 0, none⟩), u2, u3, u4, u5, u6, u7, u8, u9, u10, u11, u12, u13, u14, u15, u16, u17, u18, u19, u20, u21, u22, u23, u24, u25, u26, u27, u28, u29, u30, u31, u32, u33, u34, u35, u36, u37, u38, u39, u40, u41, u42, u43, u44, u45, u46, u47, u48, u49, u50, u51, u52, u53, u54, u55, u56, u57, u58, u59, u60, u61, u62, u63, u64, u65, u66, u67, u68, u69, u70, u71, u72, u73, u74, u75, u76, u77, u78, u79, u80, u81, u82, u83, u84, u85, u86, u87, u88, u89, u90, u91, u92, u93, u94, u95, u96, u97, u98, u99, u100, u101, u102, u103, u104, u105, u106, u107, u108, u109, u110, u111, u112, u113, u114, u115, u116, u117, u118, u119, u120, u121, u122, u123, u124, u125, u126, u127, u128, u129, u130, u131, u132, u133, u134, u135, u136, u137, u138, u139, u140, u141, u142, u143], []⟩ W := by
  obtain ⟨p1, pc1, q1, qc1, x1, s1⟩ := h1
  have c1_0 := x1.get 0 _ rfl
  have c1_1 := x1.get 1 _ rfl
  have l1 := x1.lt
  conv => arg 2; whnf
  go_wp2_with first | (go_at_call 27; (refine (HX _ _ _ _ _ (s1.at.up (Gr.below (by repeat (first | (with_reducible exact Gr.refl _) | with_reducible refine Gr.alloc ?_ _ | with_reducible refine Gr.more ?_ _ _ | with_reducible refine Gr.setCell ?_ (by dsimp only; (try simp only [World.size_more, World.size_alloc, World.size_setCell, World.size_drew, Array.size_append]); omega) _ | with_reducible refine Gr.drew ?_))))).mono ?_); rintro e w1 ⟨_, rfl, ⟨pr, pcr, rfl, hvr⟩, hb⟩; obtain ⟨os, n, rfl⟩ := Below.moreE hb; clear hb)
  exact hQ _ _ _ _ _ _ _ _ _ (by repeat (first | (with_reducible exact Gr.refl _) | with_reducible refine Gr.alloc ?_ _ | with_reducible refine Gr.more ?_ _ _ | with_reducible refine Gr.setCell ?_ (by dsimp only; (try simp only [World.size_more, World.size_alloc, World.size_setCell, World.size_drew, Array.size_append]); omega) _ | with_reducible refine Gr.drew ?_)) ((by (try simp only [World.size_more, World.size_alloc, World.size_setCell, World.size_drew, Array.size_append]); omega)) (Bx.mk2 (by go_simp) (by go_simp) (by go_simp) (by go_simp)) (⟨pr, pcr, rfl, (hvr.up (by repeat (first | (with_reducible exact Gr.refl _) | with_reducible refine Gr.alloc ?_ _ | with_reducible refine Gr.more ?_ _ _ | with_reducible refine Gr.setCell ?_ (by dsimp only; (try simp only [World.size_more, World.size_alloc, World.size_setCell, World.size_drew, Array.size_append]); omega) _ | with_reducible refine Gr.drew ?_))).mono (by (try simp only [World.size_more, World.size_alloc, World.size_setCell, World.size_drew, Array.size_append]); omega) (by (try simp only [World.size_more, World.size_alloc, World.size_setCell, World.size_drew, Array.size_append]); omega)⟩)

/-- Region 9 of law3.sane. -/
noncomputable def sane_r9_code : Code := ((Try.f14.body).bind (Code.findR 9)).getD .skip
set_option maxRecDepth 100000 in
set_option maxHeartbeats 4000000 in
theorem sane_r9 {Q : Exit → Act → World → Prop} {u0 u2 u3 u4 u5 u6 u7 u8 u9 u10 u11 u12 u13 u14 u15 u16 u17 u18 u19 u20 u21 u22 u23 u24 u25 u26 u27 u28 u29 u30 u31 u32 u33 u34 u35 u36 u37 u38 u39 u40 u41 u42 u43 u44 u45 u46 u47 u48 u49 u50 u51 u52 u53 u54 u55 u56 u57 u58 u59 u60 u61 u62 u63 u64 u65 u66 u67 u68 u69 u70 u71 u72 u73 u74 u75 u76 u77 u78 u79 u80 u81 u82 u83 u84 u85 u86 u87 u88 u89 u90 u91 u92 u93 u94 u95 u96 u97 u98 u99 u100 u101 u102 u103 u104 u105 u106 u107 u108 u109 u110 u111 u112 u113 u114 u115 u116 u117 u118 u119 u120 u121 u122 u123 u124 u125 u126 u127 u128 u129 u130 u131 u132 u133 u134 u135 u136 u137 u138 u139 u140 u141 u142 u143 : Value} {W : World} {b1 : Nat} {P P1 : List Int} {B B1 : List UInt8} {E : Int} {lo1 : Nat} (h1 : SpBx lo1 W b1 P B) (HX : CProt P B 2 1 P1 B1 E) (hQ : ∀ (z67 z68 z66 z69 z70 : Value) (b20 : Nat) (W' : World), Gr W.heap.size W W' → W.heap.size ≤ b20 → SpBx W.heap.size W' b20 P1 B1 → Q .normal ⟨#[u0, .pointer (some ⟨b1, 0, none⟩), u2, u3, u4, u5, u6, u7, u8, u9, u10, u11, u12, u13, u14, u15, u16, u17, u18, u19, .pointer (some ⟨b20, 0, none⟩), .int .i64 E, u22, u23, u24, u25, u26, u27, u28, u29, u30, u31, u32, u33, u34, u35, u36, u37, u38, u39, u40, u41, u42, u43, u44, u45, u46, u47, u48, u49, u50, u51, u52, u53, u54, u55, u56, u57, u58, u59, u60, u61, u62, u63, u64, u65, z66, z67, z68, z69, z70, u71, u72, u73, u74, u75, u76, u77, u78, u79, u80, u81, u82, u83, u84, u85, u86, u87, u88, u89, u90, u91, u92, u93, u94, u95, u96, u97, u98, u99, u100, u101, u102, u103, u104, u105, u106, u107, u108, u109, u110, u111, u112, u113, u114, u115, u116, u117, u118, u119, u120, u121, u122, u123, u124, u125, u126, u127, u128, u129, u130, u131, u132, u133, u134, u135, u136, u137, u138, u139, u140, u141, u142, u143], []⟩ W') : Code.wp Try.prog sane_r9_code Q ⟨#[u0, .pointer (some ⟨b1, 0, none⟩), u2, u3, u4, u5, u6, u7, u8, u9, u10, u11, u12, u13, u14, u15, u16, u17, u18, u19, u20, u21, u22, u23, u24, u25, u26, u27, u28, u29, u30, u31, u32, u33, u34, u35, u36, u37, u38, u39, u40, u41, u42, u43, u44, u45, u46, u47, u48, u49, u50, u51, u52, u53, u54, u55, u56, u57, u58, u59, u60, u61, u62, u63, u64, u65, u66, u67, u68, u69, u70, u71, u72, u73, u74, u75, u76, u77, u78, u79, u80, u81, u82, u83, u84, u85, u86, u87, u88, u89, u90, u91, u92, u93, u94, u95, u96, u97, u98, u99, u100, u101, u102, u103, u104, u105, u106, u107, u108, u109, u110, u111, u112, u113, u114, u115, u116, u117, u118, u119, u120, u121, u122, u123, u124, u125, u126, u127, u128, u129, u130, u131, u132, u133, u134, u135, u136, u137, u138, u139, u140, u141, u142, u143], []⟩ W := by
  obtain ⟨p1, pc1, q1, qc1, x1, s1⟩ := h1
  have c1_0 := x1.get 0 _ rfl
  have c1_1 := x1.get 1 _ rfl
  have l1 := x1.lt
  conv => arg 2; whnf
  go_wp2_with first | (go_at_call 16; (refine (HX _ _ _ _ _ (s1.at.up (Gr.below (by repeat (first | (with_reducible exact Gr.refl _) | with_reducible refine Gr.alloc ?_ _ | with_reducible refine Gr.more ?_ _ _ | with_reducible refine Gr.setCell ?_ (by dsimp only; (try simp only [World.size_more, World.size_alloc, World.size_setCell, World.size_drew, Array.size_append]); omega) _ | with_reducible refine Gr.drew ?_))))).mono ?_); rintro e w1 ⟨_, rfl, ⟨pr, pcr, qr, qcr, rfl, hvr⟩, hb⟩; obtain ⟨os, n, rfl⟩ := Below.moreE hb; clear hb)
  exact hQ _ _ _ _ _ _ _ (by repeat (first | (with_reducible exact Gr.refl _) | with_reducible refine Gr.alloc ?_ _ | with_reducible refine Gr.more ?_ _ _ | with_reducible refine Gr.setCell ?_ (by dsimp only; (try simp only [World.size_more, World.size_alloc, World.size_setCell, World.size_drew, Array.size_append]); omega) _ | with_reducible refine Gr.drew ?_)) ((by (try simp only [World.size_more, World.size_alloc, World.size_setCell, World.size_drew, Array.size_append]); omega)) (⟨pr, pcr, qr, qcr, Bx.mk2 (by go_simp) (by go_simp) (by go_simp) (by go_simp), (hvr.up (by repeat (first | (with_reducible exact Gr.refl _) | with_reducible refine Gr.alloc ?_ _ | with_reducible refine Gr.more ?_ _ _ | with_reducible refine Gr.setCell ?_ (by dsimp only; (try simp only [World.size_more, World.size_alloc, World.size_setCell, World.size_drew, Array.size_append]); omega) _ | with_reducible refine Gr.drew ?_))).mono (by (try simp only [World.size_more, World.size_alloc, World.size_setCell, World.size_drew, Array.size_append]); omega) (by (try simp only [World.size_more, World.size_alloc, World.size_setCell, World.size_drew, Array.size_append]); omega)⟩)

/-- Region 10 of law3.sane. -/
noncomputable def sane_r10_code : Code := ((Try.f14.body).bind (Code.findR 10)).getD .skip
set_option maxRecDepth 100000 in
set_option maxHeartbeats 4000000 in
theorem sane_r10 {Q : Exit → Act → World → Prop} {u0 u2 u3 u4 u5 u6 u7 u8 u9 u10 u11 u12 u13 u14 u15 u16 u17 u18 u19 u20 u21 u22 u23 u24 u25 u26 u27 u28 u29 u30 u31 u32 u33 u34 u35 u36 u37 u38 u39 u40 u41 u42 u43 u44 u45 u46 u47 u48 u49 u50 u51 u52 u53 u54 u55 u56 u57 u58 u59 u60 u61 u62 u63 u64 u65 u66 u67 u68 u69 u70 u71 u72 u73 u74 u75 u76 u77 u78 u79 u80 u81 u82 u83 u84 u85 u86 u87 u88 u89 u90 u91 u92 u93 u94 u95 u96 u97 u98 u99 u100 u101 u102 u103 u104 u105 u106 u107 u108 u109 u110 u111 u112 u113 u114 u115 u116 u117 u118 u119 u120 u121 u122 u123 u124 u125 u126 u127 u128 u129 u130 u131 u132 u133 u134 u135 u136 u137 u138 u139 u140 u141 u142 u143 : Value} {W : World} {b1 : Nat} {P P1 : List Int} {B B1 : List UInt8} {E : Int} {lo1 : Nat} (h1 : SpBx lo1 W b1 P B) (HX : CProt P B 1 4 P1 B1 E) (hQ : ∀ (z72 z73 z71 z74 z75 : Value) (b22 : Nat) (W' : World), Gr W.heap.size W W' → W.heap.size ≤ b22 → SpBx W.heap.size W' b22 P1 B1 → Q .normal ⟨#[u0, .pointer (some ⟨b1, 0, none⟩), u2, u3, u4, u5, u6, u7, u8, u9, u10, u11, u12, u13, u14, u15, u16, u17, u18, u19, u20, u21, .pointer (some ⟨b22, 0, none⟩), .int .i64 E, u24, u25, u26, u27, u28, u29, u30, u31, u32, u33, u34, u35, u36, u37, u38, u39, u40, u41, u42, u43, u44, u45, u46, u47, u48, u49, u50, u51, u52, u53, u54, u55, u56, u57, u58, u59, u60, u61, u62, u63, u64, u65, u66, u67, u68, u69, u70, z71, z72, z73, z74, z75, u76, u77, u78, u79, u80, u81, u82, u83, u84, u85, u86, u87, u88, u89, u90, u91, u92, u93, u94, u95, u96, u97, u98, u99, u100, u101, u102, u103, u104, u105, u106, u107, u108, u109, u110, u111, u112, u113, u114, u115, u116, u117, u118, u119, u120, u121, u122, u123, u124, u125, u126, u127, u128, u129, u130, u131, u132, u133, u134, u135, u136, u137, u138, u139, u140, u141, u142, u143], []⟩ W') : Code.wp Try.prog sane_r10_code Q ⟨#[u0, .pointer (some ⟨b1, 0, none⟩), u2, u3, u4, u5, u6, u7, u8, u9, u10, u11, u12, u13, u14, u15, u16, u17, u18, u19, u20, u21, u22, u23, u24, u25, u26, u27, u28, u29, u30, u31, u32, u33, u34, u35, u36, u37, u38, u39, u40, u41, u42, u43, u44, u45, u46, u47, u48, u49, u50, u51, u52, u53, u54, u55, u56, u57, u58, u59, u60, u61, u62, u63, u64, u65, u66, u67, u68, u69, u70, u71, u72, u73, u74, u75, u76, u77, u78, u79, u80, u81, u82, u83, u84, u85, u86, u87, u88, u89, u90, u91, u92, u93, u94, u95, u96, u97, u98, u99, u100, u101, u102, u103, u104, u105, u106, u107, u108, u109, u110, u111, u112, u113, u114, u115, u116, u117, u118, u119, u120, u121, u122, u123, u124, u125, u126, u127, u128, u129, u130, u131, u132, u133, u134, u135, u136, u137, u138, u139, u140, u141, u142, u143], []⟩ W := by
  obtain ⟨p1, pc1, q1, qc1, x1, s1⟩ := h1
  have c1_0 := x1.get 0 _ rfl
  have c1_1 := x1.get 1 _ rfl
  have l1 := x1.lt
  conv => arg 2; whnf
  go_wp2_with first | (go_at_call 16; (refine (HX _ _ _ _ _ (s1.at.up (Gr.below (by repeat (first | (with_reducible exact Gr.refl _) | with_reducible refine Gr.alloc ?_ _ | with_reducible refine Gr.more ?_ _ _ | with_reducible refine Gr.setCell ?_ (by dsimp only; (try simp only [World.size_more, World.size_alloc, World.size_setCell, World.size_drew, Array.size_append]); omega) _ | with_reducible refine Gr.drew ?_))))).mono ?_); rintro e w1 ⟨_, rfl, ⟨pr, pcr, qr, qcr, rfl, hvr⟩, hb⟩; obtain ⟨os, n, rfl⟩ := Below.moreE hb; clear hb)
  exact hQ _ _ _ _ _ _ _ (by repeat (first | (with_reducible exact Gr.refl _) | with_reducible refine Gr.alloc ?_ _ | with_reducible refine Gr.more ?_ _ _ | with_reducible refine Gr.setCell ?_ (by dsimp only; (try simp only [World.size_more, World.size_alloc, World.size_setCell, World.size_drew, Array.size_append]); omega) _ | with_reducible refine Gr.drew ?_)) ((by (try simp only [World.size_more, World.size_alloc, World.size_setCell, World.size_drew, Array.size_append]); omega)) (⟨pr, pcr, qr, qcr, Bx.mk2 (by go_simp) (by go_simp) (by go_simp) (by go_simp), (hvr.up (by repeat (first | (with_reducible exact Gr.refl _) | with_reducible refine Gr.alloc ?_ _ | with_reducible refine Gr.more ?_ _ _ | with_reducible refine Gr.setCell ?_ (by dsimp only; (try simp only [World.size_more, World.size_alloc, World.size_setCell, World.size_drew, Array.size_append]); omega) _ | with_reducible refine Gr.drew ?_))).mono (by (try simp only [World.size_more, World.size_alloc, World.size_setCell, World.size_drew, Array.size_append]); omega) (by (try simp only [World.size_more, World.size_alloc, World.size_setCell, World.size_drew, Array.size_append]); omega)⟩)

/-- The space of the chapter's examples, with a number stored. -/
def z258 : List UInt8 := wrL z192 60 (btL 258 4) 4
theorem z258_len : z258.length = 192 := by unfold z258; rw [wrL_len, z192_len]
set_option maxRecDepth 100000 in
set_option maxHeartbeats 16000000 in
theorem msane_any (w : World) : Calls Try.prog 14 #[] w fun e w' => e = .returned (.bool true) ∧ Below w.heap.size w w' := by
  have hs : spB [3, 1, 4] z192.length = true := by rw [z192_len]; decide
  have hs2 : spB [3, 1, 4] z258.length = true := by rw [z258_len]; decide
  have H3 : CStore [3, 1, 4] z192 60 4 false 258 [3, 1, 4] z258 0 0 0 := cStore_ok hs 60 rfl false 258 (by decide +kernel)
  have H4 : CLoad [3, 1, 4] z258 60 4 false 258 0 0 0 := by
    have h := cLoad_ok hs2 60 (s := 4) rfl false (by decide +kernel)
    rwa [show fbV 4 false (rdL z258 60 (4 : Int).toNat) = 258 by decide +kernel] at h
  have H5 : CStore [3, 1, 4] z192 62 4 false 1 [] [] 3 64 0 := by
    have h := cStore_flt hs 62 (s := 4) rfl false 1 (by decide +kernel)
    rwa [show fltK [3, 1, 4] 2 62 (4 : Int).toNat = 3 by decide +kernel, show fltA [3, 1, 4] 2 62 (4 : Int).toNat = 64 by decide +kernel] at h
  have H6 : CLoad [3, 1, 4] z192 126 4 false 0 2 128 0 := by
    have h := cLoad_flt hs 126 (s := 4) rfl false (by decide +kernel)
    rwa [show fltK [3, 1, 4] 1 126 (4 : Int).toNat = 2 by decide +kernel, show fltA [3, 1, 4] 1 126 (4 : Int).toNat = 128 by decide +kernel] at h
  have H7 : CFetch [3, 1, 4] z192 190 4 [0, 0] 0 := by
    have h := cFetch_ok hs 190 (k := 4) rfl (by decide)
    rwa [show rdL z192 190 (goodA [3, 1, 4] 4 190 4) = [0, 0] by decide +kernel] at h
  have H8 : CPeek [3, 1, 4] z192 190 4 [] 1 192 0 := by
    have h := cPeek_flt hs 190 (k := 4) rfl (by decide) (by decide +kernel)
    rwa [show fltK [3, 1, 4] 0 190 4 = 1 by decide +kernel, show fltA [3, 1, 4] 0 190 4 = 192 by decide +kernel] at h
  have H9 : CProt [3, 1, 4] z192 2 1 [] [] 31 := cProt_perm hs (k := 2) rfl (by decide) (.inl rfl)
  have H10 : CProt [3, 1, 4] z192 1 4 [] [] 31 := cProt_perm hs (k := 1) rfl (by decide) (.inr rfl)
  have HC : CCheck [3, 1, 4] z192 0 := by have h := cCheck [3, 1, 4] z192; rwa [spE_ok hs] at h
  have H1 := three_any
  clear hs hs2
  generalize z192 = B at *
  generalize z258 = B2 at *
  go_enter Try.func14, Try.ntmps14
  go_upto_region 1 with fail
  refine sane_r1 H1 ?_
  intro _ b1 W1 g1 ge1 n1
  have h1 := n1
  clear n1 ge1
  have hG : Gr w.heap.size w W1 := Gr.trans (by repeat (first | (with_reducible exact Gr.refl _) | with_reducible refine Gr.alloc ?_ _ | with_reducible refine Gr.more ?_ _ _ | with_reducible refine Gr.setCell ?_ (by dsimp only; (try simp only [World.size_more, World.size_alloc, World.size_setCell, World.size_drew, Array.size_append]); omega) _ | with_reducible refine Gr.drew ?_)) g1
  clear g1
  go_upto_region 2 with fail
  refine sane_r2  ?_
  intro _ b2 W2 g2 ge2 n2
  replace h1 := SpBx.up g2 h1
  have h2 := n2
  clear n2
  replace hG := Gr.trans hG g2
  clear g2
  go_upto_region 3 with fail
  refine sane_r3 h1 h2 H3 ?_
  intro _ _ _ _ _ _ _ b3 b4 W3 g3 ge3 n3 ge4 n4
  replace h1 := SpBx.up g3 h1
  replace h2 := Bx.up g3 h2
  have h3 := n3
  clear n3
  have h4 := n4
  clear n4
  replace hG := Gr.trans hG g3
  clear g3
  go_upto_region 4 with fail
  refine sane_r4 h3 h2 H4 ?_
  intro _ _ _ _ _ _ _ b7 W4 g4 ge7 n7
  replace h1 := SpBx.up g4 h1
  replace h2 := Bx.up g4 h2
  clear h3
  replace h4 := Bx.up g4 h4
  have h7 := n7
  clear n7
  replace hG := Gr.trans hG g4
  clear g4
  go_upto_region 5 with fail
  refine sane_r5 h1 h2 H5 ?_
  intro _ _ _ _ _ _ _ b9 b10 W5 g5 ge9 n9 ge10 n10
  replace h1 := SpBx.up g5 h1
  replace h2 := Bx.up g5 h2
  replace h4 := Bx.up g5 h4
  replace h7 := Bx.up g5 h7
  have h9 := n9
  clear n9
  have h10 := n10
  clear n10
  replace hG := Gr.trans hG g5
  clear g5
  go_upto_region 6 with fail
  refine sane_r6 h1 h2 H6 ?_
  intro _ _ _ _ _ _ _ b13 W6 g6 ge13 n13
  replace h1 := SpBx.up g6 h1
  replace h2 := Bx.up g6 h2
  replace h4 := Bx.up g6 h4
  replace h7 := Bx.up g6 h7
  clear h9
  replace h10 := Bx.up g6 h10
  have h13 := n13
  clear n13
  replace hG := Gr.trans hG g6
  clear g6
  go_upto_region 7 with fail
  refine sane_r7 h1 H7 ?_
  intro _ _ _ _ _ y15  W7 g7 nq15
  replace h1 := SpBx.up g7 h1
  replace h2 := Bx.up g7 h2
  replace h4 := Bx.up g7 h4
  replace h7 := Bx.up g7 h7
  replace h10 := Bx.up g7 h10
  replace h13 := Bx.up g7 h13
  have h15 := nq15
  clear nq15
  replace hG := Gr.trans hG g7
  clear g7
  go_upto_region 8 with fail
  refine sane_r8 h1 H8 ?_
  intro _ _ _ _ _ _ y17 b18 W8 g8 ge18 n18 nq17
  replace h1 := SpBx.up g8 h1
  replace h2 := Bx.up g8 h2
  replace h4 := Bx.up g8 h4
  replace h7 := Bx.up g8 h7
  replace h10 := Bx.up g8 h10
  replace h13 := Bx.up g8 h13
  replace h15 := SqVal.up g8 h15
  have h18 := n18
  clear n18
  have h17 := nq17
  clear nq17
  replace hG := Gr.trans hG g8
  clear g8
  go_upto_region 9 with fail
  refine sane_r9 h1 H9 ?_
  intro _ _ _ _ _ b20 W9 g9 ge20 n20
  replace h1 := SpBx.up g9 h1
  replace h2 := Bx.up g9 h2
  replace h4 := Bx.up g9 h4
  replace h7 := Bx.up g9 h7
  replace h10 := Bx.up g9 h10
  replace h13 := Bx.up g9 h13
  replace h15 := SqVal.up g9 h15
  replace h18 := Bx.up g9 h18
  replace h17 := SqVal.up g9 h17
  have h20 := n20
  clear n20
  replace hG := Gr.trans hG g9
  clear g9
  go_upto_region 10 with fail
  refine sane_r10 h1 H10 ?_
  intro _ _ _ _ _ b22 W10 g10 ge22 n22
  replace h1 := SpBx.up g10 h1
  replace h2 := Bx.up g10 h2
  replace h4 := Bx.up g10 h4
  replace h7 := Bx.up g10 h7
  replace h10 := Bx.up g10 h10
  replace h13 := Bx.up g10 h13
  replace h15 := SqVal.up g10 h15
  replace h18 := Bx.up g10 h18
  replace h17 := SqVal.up g10 h17
  clear h20
  have h22 := n22
  clear n22
  replace hG := Gr.trans hG g10
  clear g10
  have c2_0 := h2.get 0 _ rfl
  have c2_1 := h2.get 1 _ rfl
  have c4_0 := h4.get 0 _ rfl
  have c4_1 := h4.get 1 _ rfl
  have c7_0 := h7.get 0 _ rfl
  have c7_1 := h7.get 1 _ rfl
  have c10_0 := h10.get 0 _ rfl
  have c10_1 := h10.get 1 _ rfl
  have c13_0 := h13.get 0 _ rfl
  have c13_1 := h13.get 1 _ rfl
  have c18_0 := h18.get 0 _ rfl
  have c18_1 := h18.get 1 _ rfl
  obtain ⟨p15, c15, rfl, s15⟩ := h15
  obtain ⟨p1, pc1, q1, qc1, x1, s1⟩ := h1
  have c1_0 := x1.get 0 _ rfl
  have c1_1 := x1.get 1 _ rfl
  have l1 := x1.lt
  have l2 := h2.lt
  have l4 := h4.lt
  have l7 := h7.lt
  have l10 := h10.lt
  have l13 := h13.lt
  have l18 := h18.lt
  clear h2 h4 h7 h10 h13 h18 H1 H3 H4 H5 H6 H7 H8 H9 H10 h17 h22 s15 ge3 ge4 ge7 ge9 ge10 ge13 ge18 ge20 ge22
  go_wp2_with (go_at_call 21; (refine (HC _ _ _ _ _ (s1.at.up (Gr.below (by repeat (first | (with_reducible exact Gr.refl _) | with_reducible refine Gr.alloc ?_ _ | with_reducible refine Gr.more ?_ _ _ | with_reducible refine Gr.setCell ?_ (by dsimp only; (try simp only [World.size_more, World.size_alloc, World.size_setCell, World.size_drew, Array.size_append]); omega) _ | with_reducible refine Gr.drew ?_))))).mono ?_); rintro e w1 ⟨rfl, hb⟩; obtain ⟨os, n, rfl⟩ := Below.moreE hb; clear hb)
  refine bodyPost_ret (v := .bool true) (by simp [results, Try.results14, go_sem]) rfl ⟨rfl, Gr.below (by repeat (first | (with_reducible exact hG) | with_reducible refine Gr.alloc ?_ _ | with_reducible refine Gr.more ?_ _ _ | with_reducible refine Gr.setCell ?_ (by dsimp only; (try simp only [World.size_more, World.size_alloc, World.size_setCell, World.size_drew, Array.size_append]); omega) _ | with_reducible refine Gr.drew ?_))⟩
end Go.Proofs.Ytnapbpfofpaakaa
