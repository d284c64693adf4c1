/-
  The law MemCode: its loop (made by genmd.py).
-/
import Derived.Test.YtbfakdbhmpjmlaaMd
namespace Go.Proofs.Ytbfakdbhmpjmlaa
open Go.RowKit

theorem seqAt_ne {W : World} {p : Option Addr} {xs : List Value} (h : SeqAt W p xs) (hn : xs ≠ []) : ∃ b o, p = some ⟨b, o, none⟩ ∧ ∀ j v, xs[j]? = some v → W.cell? ⟨b, o + j, none⟩ = some v := h.resolve_left hn
/-- The bytes of a page. -/
def pgB (B : List UInt8) (k : Nat) : List UInt8 := (B.drop (64 * k)).take 64
theorem pgB_len {B : List UInt8} {k : Nat} (h : 64 * k + 64 ≤ B.length) : (pgB B k).length = 64 := by simp [pgB]; omega
theorem page_conv (c : Nat) {W : World} {b o : Nat} {B : List UInt8} (h : ∀ j v, (bV B)[j]? = some v → W.cell? ⟨b, o + j, none⟩ = some v) {k : Nat} (hk : 64 * k + 64 ≤ B.length) (n : Nat) :
    (convert 23 9 (.slice (some ⟨b, o + 64 * k, none⟩) 64 c)).run Try.prog (W.drewN n) = .ok (.string ⟨(pgB B k).toArray⟩) (W.drewN n) := by
  have hs : SeqAt (W.drewN n) (some ⟨b, o + 64 * k, none⟩) (bV (pgB B k)) := .inr ⟨b, o + 64 * k, rfl, fun j v hj => by
    have hjl : j < (pgB B k).length := by
      have := (List.getElem?_eq_some_iff.1 hj).1
      simpa [bV] using this
    have hj2 : j < 64 := by rw [pgB_len hk] at hjl; exact hjl
    rw [bV_get _ j hjl] at hj
    have := h (64 * k + j) _ (bV_get B (64 * k + j) (by omega))
    rw [← hj, Nat.add_assoc]
    show W.cell? _ = _
    rw [this]
    simp [pgB]⟩
  have := conv_any (pgB B k) (some ⟨b, o + 64 * k, none⟩) c (W.drewN n) hs
  rwa [pgB_len hk] at this
/-- A block that is a loop. -/
def Code.findB : Code → Option Code
  | .block k (.loop c) => some (.block k (.loop c))
  | .seq a b => match Code.findB a with
    | some c => some c
    | none => Code.findB b
  | .scope c => Code.findB c
  | .block _ c => Code.findB c
  | .cond _ a b => match Code.findB a with
    | some c => some c
    | none => Code.findB b
  | _ => none
noncomputable def code_loop_code : Code := ((Try.f11.body).bind Code.findB).getD .skip
set_option maxRecDepth 100000 in
set_option maxHeartbeats 16000000 in
theorem code_loop {Q : Exit → Act → World → Prop} {u0 u1 u2 u4 u5 u6 u7 u8 u9 u10 u11 u12 u13 u14 u15 u16 u18 u19 u20 u21 u22 u23 u24 u26 u27 u28 u29 u30 u31 u32 u33 u34 u35 u36 u37 u38 u39 u40 u41 u42 u43 u44 u45 u46 u47 u48 u49 u50 u51 u52 u53 u54 u55 u56 u57 u58 u59 u60 u61 u62 u63 u64 u65 u66 u67 u68 u69 u70 u71 u72 u73 u74 u75 u76 u77 u78 u79 u80 u81 u82 u83 u84 u85 u86 u87 u88 u89 u90 u91 u92 u93 u94 u95 u96 u97 u98 u99 u100 u101 u102 u103 u104 u105 u106 u107 u108 u109 u110 u111 u112 u113 u114 u115 u116 u117 u118 u119 u120 u121 u122 u123 u124 u125 u126 u127 u128 u129 u130 u131 u132 u133 u134 u135 u136 u137 u138 u139 u140 u141 u142 u143 u144 u145 u146 u147 u148 u149 u150 u151 u152 u153 u154 u155 u156 u157 u158 u159 u160 u161 u162 u163 u164 u165 u166 u167 u168 u169 u170 u171 u172 u173 u174 u175 u176 u177 u178 u179 u180 u181 u182 u183 u184 u185 u186 u187 u188 u189 u190 u191 u192 u193 u194 u195 u196 u197 u198 u199 u200 u201 u202 u203 u204 u205 u206 u207 u208 u209 u210 u211 u212 u213 : Value} {W : World} {b3 b17 lo3 : Nat} {P P6 : List Int} {B B6 : List UInt8} (h3 : SpBx lo3 W b3 P B) (h17 : SpBxA W b17 P6 B6) (HL : Hid (P.length ≤ 32 ∧ B.length = 64 * P.length ∧ P6.length = P.length ∧ B6.length = B.length)) (HP : Hid (∀ k (h : k < P.length), P[k] = 0 ∨ P[k] = 1 ∨ P[k] = 3 ∨ P[k] = 4)) (HK : Hid (∀ k (h : k < P.length), P[k] = 4 → (∀ h6 : k < P6.length, P6[k] = 4) ∧ pgB B6 k = pgB B k)) (hQ : ∀ (z6 z25 z172 z173 z174 z175 z176 z177 z178 z179 z180 z181 z182 z183 z184 z185 z186 z187 z188 z189 z190 z191 z192 z193 z194 z195 z196 z197 z198 z199 z200 z201 z202 z203 z204 z205 z206 z207 z208 z209 z210 z211 z212 z213 : Value) (W' : World), Gr W.heap.size W W' → Q .normal ⟨#[u0, u1, u2, .pointer (some ⟨b3, 0, none⟩), u4, u5, z6, u7, u8, u9, u10, u11, u12, u13, u14, u15, u16, .pointer (some ⟨b17, 0, none⟩), u18, u19, u20, u21, u22, u23, u24, z25, u26, u27, u28, u29, u30, u31, u32, u33, u34, u35, u36, u37, u38, u39, u40, u41, u42, u43, u44, u45, u46, u47, u48, u49, u50, u51, u52, u53, u54, u55, u56, u57, u58, u59, u60, u61, u62, u63, u64, u65, u66, u67, u68, u69, u70, u71, u72, u73, u74, u75, u76, u77, u78, u79, u80, u81, u82, u83, u84, u85, u86, u87, u88, u89, u90, u91, u92, u93, u94, u95, u96, u97, u98, u99, u100, u101, u102, u103, u104, u105, u106, u107, u108, u109, u110, u111, u112, u113, u114, u115, u116, u117, u118, u119, u120, u121, u122, u123, u124, u125, u126, u127, u128, u129, u130, u131, u132, u133, u134, u135, u136, u137, u138, u139, u140, u141, u142, u143, u144, u145, u146, u147, u148, u149, u150, u151, u152, u153, u154, u155, u156, u157, u158, u159, u160, u161, u162, u163, u164, u165, u166, u167, u168, u169, u170, u171, z172, z173, z174, z175, z176, z177, z178, z179, z180, z181, z182, z183, z184, z185, z186, z187, z188, z189, z190, z191, z192, z193, z194, z195, z196, z197, z198, z199, z200, z201, z202, z203, z204, z205, z206, z207, z208, z209, z210, z211, z212, z213], []⟩ W') : Code.wp Try.prog code_loop_code Q ⟨#[u0, u1, u2, .pointer (some ⟨b3, 0, none⟩), u4, u5, u6, u7, u8, u9, u10, u11, u12, u13, u14, u15, u16, .pointer (some ⟨b17, 0, none⟩), u18, u19, u20, u21, u22, u23, u24, .int .i64 0, u26, u27, u28, u29, u30, u31, u32, u33, u34, u35, u36, u37, u38, u39, u40, u41, u42, u43, u44, u45, u46, u47, u48, u49, u50, u51, u52, u53, u54, u55, u56, u57, u58, u59, u60, u61, u62, u63, u64, u65, u66, u67, u68, u69, u70, u71, u72, u73, u74, u75, u76, u77, u78, u79, u80, u81, u82, u83, u84, u85, u86, u87, u88, u89, u90, u91, u92, u93, u94, u95, u96, u97, u98, u99, u100, u101, u102, u103, u104, u105, u106, u107, u108, u109, u110, u111, u112, u113, u114, u115, u116, u117, u118, u119, u120, u121, u122, u123, u124, u125, u126, u127, u128, u129, u130, u131, u132, u133, u134, u135, u136, u137, u138, u139, u140, u141, u142, u143, u144, u145, u146, u147, u148, u149, u150, u151, u152, u153, u154, u155, u156, u157, u158, u159, u160, u161, u162, u163, u164, u165, u166, u167, u168, u169, u170, u171, u172, u173, u174, u175, u176, u177, u178, u179, u180, u181, u182, u183, u184, u185, u186, u187, u188, u189, u190, u191, u192, u193, u194, u195, u196, u197, u198, u199, u200, u201, u202, u203, u204, u205, u206, u207, u208, u209, u210, u211, u212, u213], []⟩ W := by
  conv => arg 2; whnf
  obtain ⟨p3, pc3, q3, qc3, x3, s3⟩ := id h3
  have c3_0 := x3.get 0 _ rfl
  go_wp2_with fail
  clear c3_0 x3 s3
  go_loopw [25] (fun i wr => ∃ k : Nat, k ≤ P.length ∧ i = .int .i64 (k : Int) ∧ SpBx lo3 wr b3 P B ∧ SpBxA wr b17 P6 B6 ∧ Gr W.heap.size W wr) (fun i _ => P.length - (intOf i).toNat)
  case atStart => exact ⟨0, Nat.zero_le _, rfl, h3, h17, Gr.refl _⟩
  case round =>
  clear h3 h17
  obtain ⟨k, hk, rfl, h3, h17, hG⟩ := hrel
  clear p3 pc3 q3 qc3
  obtain ⟨p3, pc3, q3, qc3, x3, s3⟩ := id h3
  have c3_0 := x3.get 0 _ rfl
  by_cases hlt : k < P.length
  · have hki : (k : Int) < (P.length : Int) := by omega
    have hk0 : (0 : Int) ≤ (k : Int) := by omega
    have hw1 : wrap64 ((k : Int) + 1) = (k : Int) + 1 := by have := HL.out; unfold wrap64; omega
    obtain ⟨bp, op, rfl, hp⟩ := seqAt_ne s3.perm.at (by have := HL.out; simp [iV]; intro e; subst e; simp at hlt)
    have hc := hp k _ (iV_get P k hlt)
    clear hp
    go_upto_region 29 with fail
    clear c3_0
    rcases HP.out k hlt with hx | hx | hx | hx
    · rw [hx] at hc
      refine code_r29a0 x3 hki hk0 hc ?_
      intro _ _ _ _ _ _ _ _ _ _ _ _ _ _ _ _ _ _ _ _ _ _ _ _ _ _ _ _ _ _ _ _ _ _ W90 g90
      replace h3 := SpBx.up g90 h3
      replace h17 := SpBxA.up g90 h17
      replace hG := Gr.trans hG g90
      clear g90 hc x3 s3
      go_wp2_with fail
      go_roundw
      case rel => exact ⟨k + 1, hlt, by go_num, h3, h17, hG⟩
      case measure =>
        clear hx
        first | rw [hw1] | skip
        show P.length - ((k : Int) + 1).toNat < P.length - (k : Int).toNat
        omega
    · rw [hx] at hc
      refine code_r29a1 x3 hki hk0 hc ?_
      intro _ _ _ _ _ _ _ _ _ _ _ _ _ _ _ _ _ _ _ _ _ _ _ _ _ _ _ _ _ _ _ _ _ _ W90 g90
      replace h3 := SpBx.up g90 h3
      replace h17 := SpBxA.up g90 h17
      replace hG := Gr.trans hG g90
      clear g90 hc x3 s3
      go_wp2_with fail
      go_roundw
      case rel => exact ⟨k + 1, hlt, by go_num, h3, h17, hG⟩
      case measure =>
        clear hx
        first | rw [hw1] | skip
        show P.length - ((k : Int) + 1).toNat < P.length - (k : Int).toNat
        omega
    · rw [hx] at hc
      refine code_r29a3 x3 hki hk0 hc ?_
      intro _ _ _ _ _ _ _ _ _ _ _ _ _ _ _ _ _ _ _ _ _ _ _ _ _ _ _ _ _ _ _ _ _ _ W90 g90
      replace h3 := SpBx.up g90 h3
      replace h17 := SpBxA.up g90 h17
      replace hG := Gr.trans hG g90
      clear g90 hc x3 s3
      go_wp2_with fail
      go_roundw
      case rel => exact ⟨k + 1, hlt, by go_num, h3, h17, hG⟩
      case measure =>
        clear hx
        first | rw [hw1] | skip
        show P.length - ((k : Int) + 1).toNat < P.length - (k : Int).toNat
        omega
    · rw [hx] at hc
      obtain ⟨h6, hpg⟩ := HK.out k hlt hx
      have hL := HL.out
      obtain ⟨p17, pc17, q17, qc17, x17, s17⟩ := id h17
      rw [hL.2.2.1, hL.2.2.2] at x17
      obtain ⟨cp, oq, rfl, hp2⟩ := seqAt_ne s17.perm (by simp [iV]; intro e; have := hL.2.2.1; rw [e] at this; simp at this; omega)
      have hc2 := hp2 k _ (iV_get P6 k (by omega))
      rw [h6 (by omega)] at hc2
      have hne : ∀ X : List UInt8, X.length = B.length → bV X ≠ [] := fun X hX => by intro e; have h0 := congrArg List.length e; rw [bV_len, hX] at h0; have hBL := hL.2.1; have h00 : B.length = 0 := h0; omega
      obtain ⟨bb, ob, rfl, hb1⟩ := seqAt_ne s3.byte.at (hne _ rfl)
      obtain ⟨cb, oc, rfl, hb2⟩ := seqAt_ne s17.byte (hne _ hL.2.2.2)
      have hcap := s3.cap
      have hcap2 := s17.cap
      rw [hL.2.2.2] at hcap2
      have hs1 := slice_mid bb ob B.length qc3 k (by omega) hcap (by omega)
      have hs2 := slice_mid cb oc B.length qc17 k (by omega) hcap2 (by omega)
      have hv1 := fun n => page_conv (qc3 - 64 * k) (W := wr) hb1 (k := k) (by omega) n
      have hv2 := fun n => page_conv (qc17 - 64 * k) (W := wr) hb2 (k := k) (by omega) n
      rw [hpg] at hv2
      have k1 : wrap64 (64 * (k : Int)) = 64 * (k : Int) := by unfold wrap64; omega
      have k3 : wrap64 (64 * (k : Int) + 64) = 64 * (k : Int) + 64 := by unfold wrap64; omega
      clear hb1 hb2 hp2 hne
      refine code_r29b x3 x17 hki hk0 hc hc2 k1 ((wrapI64 _).trans k1) k3 ((wrapI64 _).trans k3) hs1 hs2 hv1 hv2 ?_
      intro _ _ _ _ _ _ _ _ _ _ _ _ _ _ _ _ _ _ _ _ _ _ _ _ _ _ _ _ _ _ _ _ _ _ W90 g90
      replace h3 := SpBx.up g90 h3
      replace h17 := SpBxA.up g90 h17
      replace hG := Gr.trans hG g90
      clear g90 hc x3 s3
      go_wp2_with fail
      go_roundw
      case rel => exact ⟨k + 1, hlt, by go_num, h3, h17, hG⟩
      case measure =>
        clear hx
        first | rw [hw1] | skip
        show P.length - ((k : Int) + 1).toNat < P.length - (k : Int).toNat
        omega
  · obtain rfl : k = P.length := by omega
    have hki : ¬ (P.length : Int) < (P.length : Int) := by omega
    clear hlt hk
    go_wp2_with fail
    all_goals exact hQ _ _ _ _ _ _ _ _ _ _ _ _ _ _ _ _ _ _ _ _ _ _ _ _ _ _ _ _ _ _ _ _ _ _ _ _ _ _ _ _ _ _ _ _ _ hG
end Go.Proofs.Ytbfakdbhmpjmlaa
