/-
  The law MemFaults (made by genzq.py).
-/
import Derived.Test.YtbfakdbhmpjmlaaGD
namespace Go.Proofs.Ytbfakdbhmpjmlaa
open Go.RowKit

/-- Region 1 of law3.MemFaults. -/
noncomputable def faults_r1_code : Code := ((Try.f9.body).bind (Code.findR 1)).getD .skip
set_option maxRecDepth 100000 in
set_option maxHeartbeats 4000000 in
theorem faults_r1 {Q : Exit → Act → World → Prop} {u0 u1 u2 u3 u4 u5 u6 u7 u8 u9 u10 u11 u12 u13 u14 u15 u16 u17 u18 u19 u20 u21 u22 u23 u24 u25 u26 u27 u28 u29 u30 u31 u32 u33 u34 u35 u36 u37 u38 u39 u40 u41 u42 u43 u44 u45 u46 u47 u48 u49 u50 u51 u52 u53 u54 u55 u56 u57 u58 u59 u60 u61 u62 u63 u64 u65 u66 u67 u68 u69 u70 u71 u72 u73 u74 u75 u76 u77 u78 u79 u80 u81 u82 u83 u84 u85 u86 u87 u88 u89 u90 u91 u92 u93 u94 u95 u96 u97 u98 u99 u100 u101 u102 u103 u104 u105 u106 u107 u108 u109 u110 u111 u112 u113 u114 u115 u116 u117 u118 u119 u120 u121 u122 u123 u124 u125 u126 u127 u128 u129 u130 u131 u132 u133 u134 : Value} {W : World}      (HX : ∀ w, Calls Try.prog 14 #[] w fun e w' => e = .returned (.bool true) ∧ Below w.heap.size w w') (hQ : ∀ (z24 : Value) (W' : World), Gr W.heap.size W W' → Q .normal ⟨#[u0, u1, u2, u3, u4, u5, u6, .bool true, u8, u9, u10, u11, u12, u13, u14, u15, u16, u17, u18, u19, u20, u21, u22, u23, z24, u25, u26, u27, u28, u29, u30, u31, u32, u33, u34, u35, u36, u37, u38, u39, u40, u41, u42, u43, u44, u45, u46, u47, u48, u49, u50, u51, u52, u53, u54, u55, u56, u57, u58, u59, u60, u61, u62, u63, u64, u65, u66, u67, u68, u69, u70, u71, u72, u73, u74, u75, u76, u77, u78, u79, u80, u81, u82, u83, u84, u85, u86, u87, u88, u89, u90, u91, u92, u93, u94, u95, u96, u97, u98, u99, u100, u101, u102, u103, u104, u105, u106, u107, u108, u109, u110, u111, u112, u113, u114, u115, u116, u117, u118, u119, u120, u121, u122, u123, u124, u125, u126, u127, u128, u129, u130, u131, u132, u133, u134], []⟩ W') : Code.wp Try.prog faults_r1_code Q ⟨#[u0, u1, u2, u3, u4, u5, u6, u7, u8, u9, u10, u11, u12, u13, u14, u15, u16, u17, u18, u19, u20, u21, u22, u23, u24, u25, u26, u27, u28, u29, u30, u31, u32, u33, u34, u35, u36, u37, u38, u39, u40, u41, u42, u43, u44, u45, u46, u47, u48, u49, u50, u51, u52, u53, u54, u55, u56, u57, u58, u59, u60, u61, u62, u63, u64, u65, u66, u67, u68, u69, u70, u71, u72, u73, u74, u75, u76, u77, u78, u79, u80, u81, u82, u83, u84, u85, u86, u87, u88, u89, u90, u91, u92, u93, u94, u95, u96, u97, u98, u99, u100, u101, u102, u103, u104, u105, u106, u107, u108, u109, u110, u111, u112, u113, u114, u115, u116, u117, u118, u119, u120, u121, u122, u123, u124, u125, u126, u127, u128, u129, u130, u131, u132, u133, u134], []⟩ W := by
  conv => arg 2; whnf
  go_wp2_with first | (go_at_call 14; (refine (HX _).mono ?_); rintro e w1 ⟨rfl, hb⟩; obtain ⟨os, n, rfl⟩ := Below.moreE hb; clear hb)
  first | exact (by repeat (first | (with_reducible exact Gr.refl _) | with_reducible refine Gr.alloc ?_ _ | with_reducible refine Gr.more ?_ _ _ | with_reducible refine Gr.setCell ?_ (by dsimp only; (try simp only [World.size_more, World.size_alloc, World.size_setCell, World.size_drew, Array.size_append]); omega) _ | with_reducible refine Gr.drew ?_)) | exact hQ _ _ (by repeat (first | (with_reducible exact Gr.refl _) | with_reducible refine Gr.alloc ?_ _ | with_reducible refine Gr.more ?_ _ _ | with_reducible refine Gr.setCell ?_ (by dsimp only; (try simp only [World.size_more, World.size_alloc, World.size_setCell, World.size_drew, Array.size_append]); omega) _ | with_reducible refine Gr.drew ?_)) 

/-- Region 2 of law3.MemFaults. -/
noncomputable def faults_r2_code : Code := ((Try.f9.body).bind (Code.findR 2)).getD .skip
set_option maxRecDepth 100000 in
set_option maxHeartbeats 4000000 in
theorem faults_r2 {Q : Exit → Act → World → Prop} {u0 u1 u2 u5 u6 u7 u8 u9 u10 u11 u12 u13 u14 u15 u16 u17 u18 u19 u20 u21 u22 u23 u24 u25 u26 u27 u28 u29 u30 u31 u32 u33 u34 u35 u36 u37 u38 u39 u40 u41 u42 u43 u44 u45 u46 u47 u48 u49 u50 u51 u52 u53 u54 u55 u56 u57 u58 u59 u60 u61 u62 u63 u64 u65 u66 u67 u68 u69 u70 u71 u72 u73 u74 u75 u76 u77 u78 u79 u80 u81 u82 u83 u84 u85 u86 u87 u88 u89 u90 u91 u92 u93 u94 u95 u96 u97 u98 u99 u100 u101 u102 u103 u104 u105 u106 u107 u108 u109 u110 u111 u112 u113 u114 u115 u116 u117 u118 u119 u120 u121 u122 u123 u124 u125 u126 u127 u128 u129 u130 u131 u132 u133 u134 : Value} {W : World} {b3 b4 : Nat} {P : List Int} {B : List UInt8} {a n m K A E : Int}  {lo3 : Nat} (h3 : SpBx lo3 W b3 P B) (h4 : Bx W b4 [.int .i64 a, .int .i64 n, .int .i64 m]) (HX : CAcc P B a n m K A E) (hQ : ∀ (z26 z27 z28 z29 z30 z31 z32 z33 z25 z34 z35 : Value) (b8 : Nat) (W' : World), Gr W.heap.size W W' → W.heap.size ≤ b8 → Bx W' b8 [.int .i64 K, .int .i64 A] → Q .normal ⟨#[u0, u1, u2, .pointer (some ⟨b3, 0, none⟩), .pointer (some ⟨b4, 0, none⟩), u5, u6, u7, .pointer (some ⟨b8, 0, none⟩), .int .i64 E, u10, u11, u12, u13, u14, u15, u16, u17, u18, u19, u20, u21, u22, u23, u24, z25, z26, z27, z28, z29, z30, z31, z32, z33, z34, z35, u36, u37, u38, u39, u40, u41, u42, u43, u44, u45, u46, u47, u48, u49, u50, u51, u52, u53, u54, u55, u56, u57, u58, u59, u60, u61, u62, u63, u64, u65, u66, u67, u68, u69, u70, u71, u72, u73, u74, u75, u76, u77, u78, u79, u80, u81, u82, u83, u84, u85, u86, u87, u88, u89, u90, u91, u92, u93, u94, u95, u96, u97, u98, u99, u100, u101, u102, u103, u104, u105, u106, u107, u108, u109, u110, u111, u112, u113, u114, u115, u116, u117, u118, u119, u120, u121, u122, u123, u124, u125, u126, u127, u128, u129, u130, u131, u132, u133, u134], []⟩ W') : Code.wp Try.prog faults_r2_code Q ⟨#[u0, u1, u2, .pointer (some ⟨b3, 0, none⟩), .pointer (some ⟨b4, 0, none⟩), u5, u6, u7, u8, u9, u10, u11, u12, u13, u14, u15, u16, u17, u18, u19, u20, u21, u22, u23, u24, u25, u26, u27, u28, u29, u30, u31, u32, u33, u34, u35, u36, u37, u38, u39, u40, u41, u42, u43, u44, u45, u46, u47, u48, u49, u50, u51, u52, u53, u54, u55, u56, u57, u58, u59, u60, u61, u62, u63, u64, u65, u66, u67, u68, u69, u70, u71, u72, u73, u74, u75, u76, u77, u78, u79, u80, u81, u82, u83, u84, u85, u86, u87, u88, u89, u90, u91, u92, u93, u94, u95, u96, u97, u98, u99, u100, u101, u102, u103, u104, u105, u106, u107, u108, u109, u110, u111, u112, u113, u114, u115, u116, u117, u118, u119, u120, u121, u122, u123, u124, u125, u126, u127, u128, u129, u130, u131, u132, u133, u134], []⟩ W := by
  obtain ⟨p3, pc3, q3, qc3, x3, s3⟩ := h3
  have c3_0 := x3.get 0 _ rfl
  have c3_1 := x3.get 1 _ rfl
  have l3 := x3.lt
  have c4_0 := h4.get 0 _ rfl
  have c4_1 := h4.get 1 _ rfl
  have c4_2 := h4.get 2 _ rfl
  have l4 := h4.lt
  conv => arg 2; whnf
  go_wp2_with first | (go_at_call 25; (refine (HX _ _ _ _ _ (s3.at.up (Gr.below (by repeat (first | (with_reducible exact Gr.refl _) | with_reducible refine Gr.alloc ?_ _ | with_reducible refine Gr.more ?_ _ _ | with_reducible refine Gr.setCell ?_ (by dsimp only; (try simp only [World.size_more, World.size_alloc, World.size_setCell, World.size_drew, Array.size_append]); omega) _ | with_reducible refine Gr.drew ?_))))).mono ?_); rintro e w1 ⟨rfl, hb⟩; obtain ⟨os, n, rfl⟩ := Below.moreE hb; clear hb)
  exact hQ _ _ _ _ _ _ _ _ _ _ _ _ _ (by repeat (first | (with_reducible exact Gr.refl _) | with_reducible refine Gr.alloc ?_ _ | with_reducible refine Gr.more ?_ _ _ | with_reducible refine Gr.setCell ?_ (by dsimp only; (try simp only [World.size_more, World.size_alloc, World.size_setCell, World.size_drew, Array.size_append]); omega) _ | with_reducible refine Gr.drew ?_)) ((by (try simp only [World.size_more, World.size_alloc, World.size_setCell, World.size_drew, Array.size_append]); omega)) (Bx.mk2 (by go_simp) (by go_simp) (by go_simp) (by go_simp))

/-- Region 5 of law3.MemFaults. -/
noncomputable def faults_r5_code : Code := ((Try.f9.body).bind (Code.findR 5)).getD .skip
set_option maxRecDepth 100000 in
set_option maxHeartbeats 4000000 in
theorem faults_r5 {Q : Exit → Act → World → Prop} {u0 u1 u2 u3 u4 u5 u6 u7 u8 u9 u10 u11 u12 u13 u14 u15 u16 u17 u18 u19 u20 u21 u22 u23 u24 u25 u26 u27 u28 u29 u30 u31 u32 u33 u34 u35 u36 u37 u38 u39 u40 u41 u42 u43 u44 u45 u46 u47 u48 u49 u50 u51 u52 u53 u54 u55 u56 u57 u58 u59 u60 u61 u62 u63 u64 u65 u66 u67 u68 u69 u70 u71 u72 u73 u74 u75 u76 u77 u78 u79 u80 u81 u82 u83 u84 u85 u86 u87 u88 u89 u90 u91 u92 u93 u94 u95 u96 u97 u98 u99 u100 u101 u102 u103 u104 u105 u106 u107 u108 u109 u110 u111 u112 u113 u114 u115 u116 u117 u118 u119 u120 u121 u122 u123 u124 u125 u126 u127 u128 u129 u130 u131 u132 u133 u134 : Value} {W : World}       (hQ : ∀ (z43 : Value) (b10 : Nat) (W' : World), Gr W.heap.size W W' → W.heap.size ≤ b10 → Bx W' b10 [.int .i64 0, .int .i64 0] → Q .normal ⟨#[u0, u1, u2, u3, u4, u5, u6, u7, u8, u9, .pointer (some ⟨b10, 0, none⟩), u11, u12, u13, u14, u15, u16, u17, u18, u19, u20, u21, u22, u23, u24, u25, u26, u27, u28, u29, u30, u31, u32, u33, u34, u35, u36, u37, u38, u39, u40, u41, u42, z43, u44, u45, u46, u47, u48, u49, u50, u51, u52, u53, u54, u55, u56, u57, u58, u59, u60, u61, u62, u63, u64, u65, u66, u67, u68, u69, u70, u71, u72, u73, u74, u75, u76, u77, u78, u79, u80, u81, u82, u83, u84, u85, u86, u87, u88, u89, u90, u91, u92, u93, u94, u95, u96, u97, u98, u99, u100, u101, u102, u103, u104, u105, u106, u107, u108, u109, u110, u111, u112, u113, u114, u115, u116, u117, u118, u119, u120, u121, u122, u123, u124, u125, u126, u127, u128, u129, u130, u131, u132, u133, u134], []⟩ W') : Code.wp Try.prog faults_r5_code Q ⟨#[u0, u1, u2, u3, u4, u5, u6, u7, u8, u9, u10, u11, u12, u13, u14, u15, u16, u17, u18, u19, u20, u21, u22, u23, u24, u25, u26, u27, u28, u29, u30, u31, u32, u33, u34, u35, u36, u37, u38, u39, u40, u41, u42, u43, u44, u45, u46, u47, u48, u49, u50, u51, u52, u53, u54, u55, u56, u57, u58, u59, u60, u61, u62, u63, u64, u65, u66, u67, u68, u69, u70, u71, u72, u73, u74, u75, u76, u77, u78, u79, u80, u81, u82, u83, u84, u85, u86, u87, u88, u89, u90, u91, u92, u93, u94, u95, u96, u97, u98, u99, u100, u101, u102, u103, u104, u105, u106, u107, u108, u109, u110, u111, u112, u113, u114, u115, u116, u117, u118, u119, u120, u121, u122, u123, u124, u125, u126, u127, u128, u129, u130, u131, u132, u133, u134], []⟩ W := by
  conv => arg 2; whnf
  go_wp2_with fail
  exact hQ _ _ _ (by repeat (first | (with_reducible exact Gr.refl _) | with_reducible refine Gr.alloc ?_ _ | with_reducible refine Gr.more ?_ _ _ | with_reducible refine Gr.setCell ?_ (by dsimp only; (try simp only [World.size_more, World.size_alloc, World.size_setCell, World.size_drew, Array.size_append]); omega) _ | with_reducible refine Gr.drew ?_)) ((by (try simp only [World.size_more, World.size_alloc, World.size_setCell, World.size_drew, Array.size_append]); omega)) (Bx.mk2 (by go_simp) (by go_simp) (by go_simp) (by go_simp))

/-- Region 9 of law3.MemFaults. -/
noncomputable def faults_r9_code : Code := ((Try.f9.body).bind (Code.findR 9)).getD .skip
set_option maxRecDepth 100000 in
set_option maxHeartbeats 4000000 in
theorem faults_r9 {Q : Exit → Act → World → Prop} {u0 u1 u2 u5 u6 u7 u8 u9 u10 u12 u13 u14 u15 u16 u17 u18 u19 u20 u21 u22 u23 u24 u25 u26 u27 u28 u29 u30 u31 u32 u33 u34 u35 u36 u37 u38 u39 u40 u41 u42 u43 u44 u45 u46 u47 u48 u49 u50 u51 u52 u53 u54 u55 u56 u57 u58 u59 u60 u61 u62 u63 u64 u65 u66 u67 u68 u69 u70 u71 u72 u73 u74 u75 u76 u77 u78 u79 u80 u81 u82 u83 u84 u85 u86 u87 u88 u89 u90 u91 u92 u93 u94 u95 u96 u97 u98 u99 u100 u101 u102 u103 u104 u105 u106 u107 u108 u109 u110 u111 u112 u113 u114 u115 u116 u117 u118 u119 u120 u121 u122 u123 u124 u125 u126 u127 u128 u129 u130 u131 u132 u133 u134 : Value} {W : World} {b3 b4 : Nat} {P : List Int} {B : List UInt8} {a n m a2 K A E i : Int}  {lo3 : Nat} (h3 : SpBx lo3 W b3 P B) (h4 : Bx W b4 [.int .i64 a, .int .i64 n, .int .i64 m]) (ha : wrap64 (a + i) = a2) (HX : CAcc P B a2 1 m K A E) (hQ : ∀ (z56 z57 z58 z59 z60 z61 z62 z63 z55 z64 z65 : Value) (b12 : Nat) (W' : World), Gr W.heap.size W W' → W.heap.size ≤ b12 → Bx W' b12 [.int .i64 K, .int .i64 A] → Q .normal ⟨#[u0, u1, u2, .pointer (some ⟨b3, 0, none⟩), .pointer (some ⟨b4, 0, none⟩), u5, u6, u7, u8, u9, u10, .int .i64 i, .pointer (some ⟨b12, 0, none⟩), .int .i64 E, u14, u15, u16, u17, u18, u19, u20, u21, u22, u23, u24, u25, u26, u27, u28, u29, u30, u31, u32, u33, u34, u35, u36, u37, u38, u39, u40, u41, u42, u43, u44, u45, u46, u47, u48, u49, u50, u51, u52, u53, u54, z55, z56, z57, z58, z59, z60, z61, z62, z63, z64, z65, u66, u67, u68, u69, u70, u71, u72, u73, u74, u75, u76, u77, u78, u79, u80, u81, u82, u83, u84, u85, u86, u87, u88, u89, u90, u91, u92, u93, u94, u95, u96, u97, u98, u99, u100, u101, u102, u103, u104, u105, u106, u107, u108, u109, u110, u111, u112, u113, u114, u115, u116, u117, u118, u119, u120, u121, u122, u123, u124, u125, u126, u127, u128, u129, u130, u131, u132, u133, u134], []⟩ W') : Code.wp Try.prog faults_r9_code Q ⟨#[u0, u1, u2, .pointer (some ⟨b3, 0, none⟩), .pointer (some ⟨b4, 0, none⟩), u5, u6, u7, u8, u9, u10, .int .i64 i, u12, u13, u14, u15, u16, u17, u18, u19, u20, u21, u22, u23, u24, u25, u26, u27, u28, u29, u30, u31, u32, u33, u34, u35, u36, u37, u38, u39, u40, u41, u42, u43, u44, u45, u46, u47, u48, u49, u50, u51, u52, u53, u54, u55, u56, u57, u58, u59, u60, u61, u62, u63, u64, u65, u66, u67, u68, u69, u70, u71, u72, u73, u74, u75, u76, u77, u78, u79, u80, u81, u82, u83, u84, u85, u86, u87, u88, u89, u90, u91, u92, u93, u94, u95, u96, u97, u98, u99, u100, u101, u102, u103, u104, u105, u106, u107, u108, u109, u110, u111, u112, u113, u114, u115, u116, u117, u118, u119, u120, u121, u122, u123, u124, u125, u126, u127, u128, u129, u130, u131, u132, u133, u134], []⟩ W := by
  obtain ⟨p3, pc3, q3, qc3, x3, s3⟩ := h3
  have c3_0 := x3.get 0 _ rfl
  have c3_1 := x3.get 1 _ rfl
  have l3 := x3.lt
  have c4_0 := h4.get 0 _ rfl
  have c4_1 := h4.get 1 _ rfl
  have c4_2 := h4.get 2 _ rfl
  have l4 := h4.lt
  conv => arg 2; whnf
  go_wp2_with first | (go_at_call 25; (refine (HX _ _ _ _ _ (s3.at.up (Gr.below (by repeat (first | (with_reducible exact Gr.refl _) | with_reducible refine Gr.alloc ?_ _ | with_reducible refine Gr.more ?_ _ _ | with_reducible refine Gr.setCell ?_ (by dsimp only; (try simp only [World.size_more, World.size_alloc, World.size_setCell, World.size_drew, Array.size_append]); omega) _ | with_reducible refine Gr.drew ?_))))).mono ?_); rintro e w1 ⟨rfl, hb⟩; obtain ⟨os, n, rfl⟩ := Below.moreE hb; clear hb)
  exact hQ _ _ _ _ _ _ _ _ _ _ _ _ _ (by repeat (first | (with_reducible exact Gr.refl _) | with_reducible refine Gr.alloc ?_ _ | with_reducible refine Gr.more ?_ _ _ | with_reducible refine Gr.setCell ?_ (by dsimp only; (try simp only [World.size_more, World.size_alloc, World.size_setCell, World.size_drew, Array.size_append]); omega) _ | with_reducible refine Gr.drew ?_)) ((by (try simp only [World.size_more, World.size_alloc, World.size_setCell, World.size_drew, Array.size_append]); omega)) (Bx.mk2 (by go_simp) (by go_simp) (by go_simp) (by go_simp))

/-- Region 12 of law3.MemFaults. -/
noncomputable def faults_r12_code : Code := ((Try.f9.body).bind (Code.findR 12)).getD .skip
set_option maxRecDepth 100000 in
set_option maxHeartbeats 4000000 in
theorem faults_r12 {Q : Exit → Act → World → Prop} {u0 u1 u2 u3 u4 u5 u6 u7 u8 u9 u11 u13 u14 u15 u16 u17 u18 u19 u20 u21 u22 u23 u24 u25 u26 u27 u28 u29 u30 u31 u32 u33 u34 u35 u36 u37 u38 u39 u40 u41 u42 u43 u44 u45 u46 u47 u48 u49 u50 u51 u52 u53 u54 u55 u56 u57 u58 u59 u60 u61 u62 u63 u64 u65 u66 u67 u68 u69 u70 u71 u72 u73 u74 u75 u76 u77 u78 u79 u80 u81 u82 u83 u84 u85 u86 u87 u88 u89 u90 u91 u92 u93 u94 u95 u96 u97 u98 u99 u100 u101 u102 u103 u104 u105 u106 u107 u108 u109 u110 u111 u112 u113 u114 u115 u116 u117 u118 u119 u120 u121 u122 u123 u124 u125 u126 u127 u128 u129 u130 u131 u132 u133 u134 : Value} {W : World} {b12 b10 : Nat}   {K A K0 A0 : Int}  (h12 : Bx W b12 [.int .i64 K, .int .i64 A]) (h10 : Bx W b10 [.int .i64 K0, .int .i64 A0])  (hQ : ∀ (z68 : Value) (W' : World), Caught b10 W W' → Bx W' b10 [.int .i64 K, .int .i64 A] → Q .normal ⟨#[u0, u1, u2, u3, u4, u5, u6, u7, u8, u9, .pointer (some ⟨b10, 0, none⟩), u11, .pointer (some ⟨b12, 0, none⟩), u13, u14, u15, u16, u17, u18, u19, u20, u21, u22, u23, u24, u25, u26, u27, u28, u29, u30, u31, u32, u33, u34, u35, u36, u37, u38, u39, u40, u41, u42, u43, u44, u45, u46, u47, u48, u49, u50, u51, u52, u53, u54, u55, u56, u57, u58, u59, u60, u61, u62, u63, u64, u65, u66, u67, z68, u69, u70, u71, u72, u73, u74, u75, u76, u77, u78, u79, u80, u81, u82, u83, u84, u85, u86, u87, u88, u89, u90, u91, u92, u93, u94, u95, u96, u97, u98, u99, u100, u101, u102, u103, u104, u105, u106, u107, u108, u109, u110, u111, u112, u113, u114, u115, u116, u117, u118, u119, u120, u121, u122, u123, u124, u125, u126, u127, u128, u129, u130, u131, u132, u133, u134], []⟩ W') : Code.wp Try.prog faults_r12_code Q ⟨#[u0, u1, u2, u3, u4, u5, u6, u7, u8, u9, .pointer (some ⟨b10, 0, none⟩), u11, .pointer (some ⟨b12, 0, none⟩), u13, u14, u15, u16, u17, u18, u19, u20, u21, u22, u23, u24, u25, u26, u27, u28, u29, u30, u31, u32, u33, u34, u35, u36, u37, u38, u39, u40, u41, u42, u43, u44, u45, u46, u47, u48, u49, u50, u51, u52, u53, u54, u55, u56, u57, u58, u59, u60, u61, u62, u63, u64, u65, u66, u67, u68, u69, u70, u71, u72, u73, u74, u75, u76, u77, u78, u79, u80, u81, u82, u83, u84, u85, u86, u87, u88, u89, u90, u91, u92, u93, u94, u95, u96, u97, u98, u99, u100, u101, u102, u103, u104, u105, u106, u107, u108, u109, u110, u111, u112, u113, u114, u115, u116, u117, u118, u119, u120, u121, u122, u123, u124, u125, u126, u127, u128, u129, u130, u131, u132, u133, u134], []⟩ W := by
  have c12_0 := h12.get 0 _ rfl
  have c12_1 := h12.get 1 _ rfl
  have l12 := h12.lt
  have c10_0 := h10.get 0 _ rfl
  have c10_1 := h10.get 1 _ rfl
  have l10 := h10.lt
  have f10_0 := h10.fz 0 _ rfl
  have f10_1 := h10.fz 1 _ rfl
  conv => arg 2; whnf
  go_wp2_with fail
  exact hQ _ _ (by repeat (first | (with_reducible exact Caught.refl _ _) | with_reducible refine Caught.set ?_ _ _)) (Bx.mk2 (by go_simp) (by go_simp) (by go_simp) (by go_simp))

/-- Region 15 of law3.MemFaults. -/
noncomputable def faults_r15_code : Code := ((Try.f9.body).bind (Code.findR 15)).getD .skip
set_option maxRecDepth 100000 in
set_option maxHeartbeats 4000000 in
theorem faults_r15 {Q : Exit → Act → World → Prop} {u0 u1 u2 u4 u6 u7 u8 u9 u10 u11 u12 u13 u14 u15 u16 u17 u18 u19 u20 u21 u22 u23 u24 u25 u26 u27 u28 u29 u30 u31 u32 u33 u34 u35 u36 u37 u38 u39 u40 u41 u42 u43 u44 u45 u46 u47 u48 u49 u50 u51 u52 u53 u54 u55 u56 u57 u58 u59 u60 u61 u62 u63 u64 u65 u66 u67 u68 u69 u70 u71 u72 u73 u74 u75 u76 u77 u78 u79 u80 u81 u82 u83 u84 u85 u86 u87 u88 u89 u90 u91 u92 u93 u94 u95 u96 u97 u98 u99 u100 u101 u102 u103 u104 u105 u106 u107 u108 u109 u110 u111 u112 u113 u114 u115 u116 u117 u118 u119 u120 u121 u122 u123 u124 u125 u126 u127 u128 u129 u130 u131 u132 u133 u134 : Value} {W : World} {b3 b5 : Nat} {P : List Int} {B : List UInt8} {a2 s2 v2 K A E V : Int} {g2 : Bool} {lo3 : Nat} (h3 : SpBx lo3 W b3 P B) (h5 : Bx W b5 [.int .i64 a2, .int .i64 s2, .bool g2, .int .i64 v2]) (HX : CLoad P B a2 s2 g2 V K A E) (hQ : ∀ (z73 z74 z75 z76 z77 z78 z72 z79 z80 z81 : Value) (b15 : Nat) (W' : World), Gr W.heap.size W W' → W.heap.size ≤ b15 → Bx W' b15 [.int .i64 K, .int .i64 A] → Q .normal ⟨#[u0, u1, u2, .pointer (some ⟨b3, 0, none⟩), u4, .pointer (some ⟨b5, 0, none⟩), u6, u7, u8, u9, u10, u11, u12, u13, .int .i64 V, .pointer (some ⟨b15, 0, none⟩), .int .i64 E, u17, u18, u19, u20, u21, u22, u23, u24, u25, u26, u27, u28, u29, u30, u31, u32, u33, u34, u35, u36, u37, u38, u39, u40, u41, u42, u43, u44, u45, u46, u47, u48, u49, u50, u51, u52, u53, u54, u55, u56, u57, u58, u59, u60, u61, u62, u63, u64, u65, u66, u67, u68, u69, u70, u71, z72, z73, z74, z75, z76, z77, z78, z79, z80, z81, u82, u83, u84, u85, u86, u87, u88, u89, u90, u91, u92, u93, u94, u95, u96, u97, u98, u99, u100, u101, u102, u103, u104, u105, u106, u107, u108, u109, u110, u111, u112, u113, u114, u115, u116, u117, u118, u119, u120, u121, u122, u123, u124, u125, u126, u127, u128, u129, u130, u131, u132, u133, u134], []⟩ W') : Code.wp Try.prog faults_r15_code Q ⟨#[u0, u1, u2, .pointer (some ⟨b3, 0, none⟩), u4, .pointer (some ⟨b5, 0, none⟩), u6, u7, u8, u9, u10, u11, u12, u13, u14, u15, u16, u17, u18, u19, u20, u21, u22, u23, u24, u25, u26, u27, u28, u29, u30, u31, u32, u33, u34, u35, u36, u37, u38, u39, u40, u41, u42, u43, u44, u45, u46, u47, u48, u49, u50, u51, u52, u53, u54, u55, u56, u57, u58, u59, u60, u61, u62, u63, u64, u65, u66, u67, u68, u69, u70, u71, u72, u73, u74, u75, u76, u77, u78, u79, u80, u81, u82, u83, u84, u85, u86, u87, u88, u89, u90, u91, u92, u93, u94, u95, u96, u97, u98, u99, u100, u101, u102, u103, u104, u105, u106, u107, u108, u109, u110, u111, u112, u113, u114, u115, u116, u117, u118, u119, u120, u121, u122, u123, u124, u125, u126, u127, u128, u129, u130, u131, u132, u133, u134], []⟩ W := by
  obtain ⟨p3, pc3, q3, qc3, x3, s3⟩ := h3
  have c3_0 := x3.get 0 _ rfl
  have c3_1 := x3.get 1 _ rfl
  have l3 := x3.lt
  have c5_0 := h5.get 0 _ rfl
  have c5_1 := h5.get 1 _ rfl
  have c5_2 := h5.get 2 _ rfl
  have c5_3 := h5.get 3 _ rfl
  have l5 := h5.lt
  conv => arg 2; whnf
  go_wp2_with first | (go_at_call 33; (refine (HX _ _ _ _ _ (s3.at.up (Gr.below (by repeat (first | (with_reducible exact Gr.refl _) | with_reducible refine Gr.alloc ?_ _ | with_reducible refine Gr.more ?_ _ _ | with_reducible refine Gr.setCell ?_ (by dsimp only; (try simp only [World.size_more, World.size_alloc, World.size_setCell, World.size_drew, Array.size_append]); omega) _ | with_reducible refine Gr.drew ?_))))).mono ?_); rintro e w1 ⟨rfl, hb⟩; obtain ⟨os, n, rfl⟩ := Below.moreE hb; clear hb)
  exact hQ _ _ _ _ _ _ _ _ _ _ _ _ (by repeat (first | (with_reducible exact Gr.refl _) | with_reducible refine Gr.alloc ?_ _ | with_reducible refine Gr.more ?_ _ _ | with_reducible refine Gr.setCell ?_ (by dsimp only; (try simp only [World.size_more, World.size_alloc, World.size_setCell, World.size_drew, Array.size_append]); omega) _ | with_reducible refine Gr.drew ?_)) ((by (try simp only [World.size_more, World.size_alloc, World.size_setCell, World.size_drew, Array.size_append]); omega)) (Bx.mk2 (by go_simp) (by go_simp) (by go_simp) (by go_simp))

/-- Region 16 of law3.MemFaults. -/
noncomputable def faults_r16_code : Code := ((Try.f9.body).bind (Code.findR 16)).getD .skip
set_option maxRecDepth 100000 in
set_option maxHeartbeats 4000000 in
theorem faults_r16 {Q : Exit → Act → World → Prop} {u0 u1 u2 u4 u6 u7 u8 u9 u10 u11 u12 u13 u14 u15 u16 u17 u18 u19 u20 u21 u22 u23 u24 u25 u26 u27 u28 u29 u30 u31 u32 u33 u34 u35 u36 u37 u38 u39 u40 u41 u42 u43 u44 u45 u46 u47 u48 u49 u50 u51 u52 u53 u54 u55 u56 u57 u58 u59 u60 u61 u62 u63 u64 u65 u66 u67 u68 u69 u70 u71 u72 u73 u74 u75 u76 u77 u78 u79 u80 u81 u82 u83 u84 u85 u86 u87 u88 u89 u90 u91 u92 u93 u94 u95 u96 u97 u98 u99 u100 u101 u102 u103 u104 u105 u106 u107 u108 u109 u110 u111 u112 u113 u114 u115 u116 u117 u118 u119 u120 u121 u122 u123 u124 u125 u126 u127 u128 u129 u130 u131 u132 u133 u134 : Value} {W : World} {b3 b5 : Nat} {P P' : List Int} {B B' : List UInt8} {a2 s2 v2 K A E : Int} {g2 : Bool} {lo3 : Nat} (h3 : SpBx lo3 W b3 P B) (h5 : Bx W b5 [.int .i64 a2, .int .i64 s2, .bool g2, .int .i64 v2]) (HX : CStore P B a2 s2 g2 v2 P' B' K A E) (hQ : ∀ (z83 z84 z85 z86 z87 z88 z89 z90 z82 z91 z92 z93 : Value) (b17 b18 : Nat) (W' : World), Gr W.heap.size W W' → W.heap.size ≤ b17 → SpBx W.heap.size W' b17 P' B' → W.heap.size ≤ b18 → Bx W' b18 [.int .i64 K, .int .i64 A] → Q .normal ⟨#[u0, u1, u2, .pointer (some ⟨b3, 0, none⟩), u4, .pointer (some ⟨b5, 0, none⟩), u6, u7, u8, u9, u10, u11, u12, u13, u14, u15, u16, .pointer (some ⟨b17, 0, none⟩), .pointer (some ⟨b18, 0, none⟩), .int .i64 E, u20, u21, u22, u23, u24, u25, u26, u27, u28, u29, u30, u31, u32, u33, u34, u35, u36, u37, u38, u39, u40, u41, u42, u43, u44, u45, u46, u47, u48, u49, u50, u51, u52, u53, u54, u55, u56, u57, u58, u59, u60, u61, u62, u63, u64, u65, u66, u67, u68, u69, u70, u71, u72, u73, u74, u75, u76, u77, u78, u79, u80, u81, z82, z83, z84, z85, z86, z87, z88, z89, z90, z91, z92, z93, u94, u95, u96, u97, u98, u99, u100, u101, u102, u103, u104, u105, u106, u107, u108, u109, u110, u111, u112, u113, u114, u115, u116, u117, u118, u119, u120, u121, u122, u123, u124, u125, u126, u127, u128, u129, u130, u131, u132, u133, u134], []⟩ W') : Code.wp Try.prog faults_r16_code Q ⟨#[u0, u1, u2, .pointer (some ⟨b3, 0, none⟩), u4, .pointer (some ⟨b5, 0, none⟩), u6, u7, u8, u9, u10, u11, u12, u13, u14, u15, u16, u17, u18, u19, u20, u21, u22, u23, u24, u25, u26, u27, u28, u29, u30, u31, u32, u33, u34, u35, u36, u37, u38, u39, u40, u41, u42, u43, u44, u45, u46, u47, u48, u49, u50, u51, u52, u53, u54, u55, u56, u57, u58, u59, u60, u61, u62, u63, u64, u65, u66, u67, u68, u69, u70, u71, u72, u73, u74, u75, u76, u77, u78, u79, u80, u81, u82, u83, u84, u85, u86, u87, u88, u89, u90, u91, u92, u93, u94, u95, u96, u97, u98, u99, u100, u101, u102, u103, u104, u105, u106, u107, u108, u109, u110, u111, u112, u113, u114, u115, u116, u117, u118, u119, u120, u121, u122, u123, u124, u125, u126, u127, u128, u129, u130, u131, u132, u133, u134], []⟩ W := by
  obtain ⟨p3, pc3, q3, qc3, x3, s3⟩ := h3
  have c3_0 := x3.get 0 _ rfl
  have c3_1 := x3.get 1 _ rfl
  have l3 := x3.lt
  have c5_0 := h5.get 0 _ rfl
  have c5_1 := h5.get 1 _ rfl
  have c5_2 := h5.get 2 _ rfl
  have c5_3 := h5.get 3 _ rfl
  have l5 := h5.lt
  conv => arg 2; whnf
  go_wp2_with first | (go_at_call 34; (refine (HX _ _ _ _ _ (s3.at.up (Gr.below (by repeat (first | (with_reducible exact Gr.refl _) | with_reducible refine Gr.alloc ?_ _ | with_reducible refine Gr.more ?_ _ _ | with_reducible refine Gr.setCell ?_ (by dsimp only; (try simp only [World.size_more, World.size_alloc, World.size_setCell, World.size_drew, Array.size_append]); omega) _ | with_reducible refine Gr.drew ?_))))).mono ?_); rintro e w1 ⟨_, rfl, ⟨pr, pcr, qr, qcr, rfl, hvr⟩, hb⟩; obtain ⟨os, n, rfl⟩ := Below.moreE hb; clear hb)
  exact hQ _ _ _ _ _ _ _ _ _ _ _ _ _ _ _ (by repeat (first | (with_reducible exact Gr.refl _) | with_reducible refine Gr.alloc ?_ _ | with_reducible refine Gr.more ?_ _ _ | with_reducible refine Gr.setCell ?_ (by dsimp only; (try simp only [World.size_more, World.size_alloc, World.size_setCell, World.size_drew, Array.size_append]); omega) _ | with_reducible refine Gr.drew ?_)) ((by (try simp only [World.size_more, World.size_alloc, World.size_setCell, World.size_drew, Array.size_append]); omega)) (⟨pr, pcr, qr, qcr, Bx.mk2 (by go_simp) (by go_simp) (by go_simp) (by go_simp), (hvr.up (by repeat (first | (with_reducible exact Gr.refl _) | with_reducible refine Gr.alloc ?_ _ | with_reducible refine Gr.more ?_ _ _ | with_reducible refine Gr.setCell ?_ (by dsimp only; (try simp only [World.size_more, World.size_alloc, World.size_setCell, World.size_drew, Array.size_append]); omega) _ | with_reducible refine Gr.drew ?_))).mono (by (try simp only [World.size_more, World.size_alloc, World.size_setCell, World.size_drew, Array.size_append]); omega) (by (try simp only [World.size_more, World.size_alloc, World.size_setCell, World.size_drew, Array.size_append]); omega)⟩) ((by (try simp only [World.size_more, World.size_alloc, World.size_setCell, World.size_drew, Array.size_append]); omega)) (Bx.mk2 (by go_simp) (by go_simp) (by go_simp) (by go_simp))

/-- Region 19 of law3.MemFaults. -/
noncomputable def faults_r19_code : Code := ((Try.f9.body).bind (Code.findR 19)).getD .skip
set_option maxRecDepth 100000 in
set_option maxHeartbeats 4000000 in
theorem faults_r19 {Q : Exit → Act → World → Prop} {u0 u1 u2 u4 u6 u7 u8 u9 u10 u11 u12 u13 u14 u15 u16 u17 u18 u19 u20 u21 u22 u23 u24 u25 u26 u27 u28 u29 u30 u31 u32 u33 u34 u35 u36 u37 u38 u39 u40 u41 u42 u43 u44 u45 u46 u47 u48 u49 u50 u51 u52 u53 u54 u55 u56 u57 u58 u59 u60 u61 u62 u63 u64 u65 u66 u67 u68 u69 u70 u71 u72 u73 u74 u75 u76 u77 u78 u79 u80 u81 u82 u83 u84 u85 u86 u87 u88 u89 u90 u91 u92 u93 u94 u95 u96 u97 u98 u99 u100 u101 u102 u103 u104 u105 u106 u107 u108 u109 u110 u111 u112 u113 u114 u115 u116 u117 u118 u119 u120 u121 u122 u123 u124 u125 u126 u127 u128 u129 u130 u131 u132 u133 u134 : Value} {W : World} {b3 b5 : Nat} {P : List Int} {B : List UInt8} {a2 s2 v2 K A E : Int} {g2 : Bool} {lo3 : Nat} (h3 : SpBx lo3 W b3 P B) (h5 : Bx W b5 [.int .i64 a2, .int .i64 s2, .bool g2, .int .i64 v2]) (HX : CAcc P B a2 s2 1 K A E) (hQ : ∀ (z108 z109 z110 z111 z112 z113 z114 z107 z115 z116 : Value) (b20 : Nat) (W' : World), Gr W.heap.size W W' → W.heap.size ≤ b20 → Bx W' b20 [.int .i64 K, .int .i64 A] → Q .normal ⟨#[u0, u1, u2, .pointer (some ⟨b3, 0, none⟩), u4, .pointer (some ⟨b5, 0, none⟩), u6, u7, u8, u9, u10, u11, u12, u13, u14, u15, u16, u17, u18, u19, .pointer (some ⟨b20, 0, none⟩), .int .i64 E, u22, u23, u24, u25, u26, u27, u28, u29, u30, u31, u32, u33, u34, u35, u36, u37, u38, u39, u40, u41, u42, u43, u44, u45, u46, u47, u48, u49, u50, u51, u52, u53, u54, u55, u56, u57, u58, u59, u60, u61, u62, u63, u64, u65, u66, u67, u68, u69, u70, u71, u72, u73, u74, u75, u76, u77, u78, u79, u80, u81, u82, u83, u84, u85, u86, u87, u88, u89, u90, u91, u92, u93, u94, u95, u96, u97, u98, u99, u100, u101, u102, u103, u104, u105, u106, z107, z108, z109, z110, z111, z112, z113, z114, z115, z116, u117, u118, u119, u120, u121, u122, u123, u124, u125, u126, u127, u128, u129, u130, u131, u132, u133, u134], []⟩ W') : Code.wp Try.prog faults_r19_code Q ⟨#[u0, u1, u2, .pointer (some ⟨b3, 0, none⟩), u4, .pointer (some ⟨b5, 0, none⟩), u6, u7, u8, u9, u10, u11, u12, u13, u14, u15, u16, u17, u18, u19, u20, u21, u22, u23, u24, u25, u26, u27, u28, u29, u30, u31, u32, u33, u34, u35, u36, u37, u38, u39, u40, u41, u42, u43, u44, u45, u46, u47, u48, u49, u50, u51, u52, u53, u54, u55, u56, u57, u58, u59, u60, u61, u62, u63, u64, u65, u66, u67, u68, u69, u70, u71, u72, u73, u74, u75, u76, u77, u78, u79, u80, u81, u82, u83, u84, u85, u86, u87, u88, u89, u90, u91, u92, u93, u94, u95, u96, u97, u98, u99, u100, u101, u102, u103, u104, u105, u106, u107, u108, u109, u110, u111, u112, u113, u114, u115, u116, u117, u118, u119, u120, u121, u122, u123, u124, u125, u126, u127, u128, u129, u130, u131, u132, u133, u134], []⟩ W := by
  obtain ⟨p3, pc3, q3, qc3, x3, s3⟩ := h3
  have c3_0 := x3.get 0 _ rfl
  have c3_1 := x3.get 1 _ rfl
  have l3 := x3.lt
  have c5_0 := h5.get 0 _ rfl
  have c5_1 := h5.get 1 _ rfl
  have c5_2 := h5.get 2 _ rfl
  have c5_3 := h5.get 3 _ rfl
  have l5 := h5.lt
  conv => arg 2; whnf
  go_wp2_with first | (go_at_call 25; (refine (HX _ _ _ _ _ (s3.at.up (Gr.below (by repeat (first | (with_reducible exact Gr.refl _) | with_reducible refine Gr.alloc ?_ _ | with_reducible refine Gr.more ?_ _ _ | with_reducible refine Gr.setCell ?_ (by dsimp only; (try simp only [World.size_more, World.size_alloc, World.size_setCell, World.size_drew, Array.size_append]); omega) _ | with_reducible refine Gr.drew ?_))))).mono ?_); rintro e w1 ⟨rfl, hb⟩; obtain ⟨os, n, rfl⟩ := Below.moreE hb; clear hb)
  exact hQ _ _ _ _ _ _ _ _ _ _ _ _ (by repeat (first | (with_reducible exact Gr.refl _) | with_reducible refine Gr.alloc ?_ _ | with_reducible refine Gr.more ?_ _ _ | with_reducible refine Gr.setCell ?_ (by dsimp only; (try simp only [World.size_more, World.size_alloc, World.size_setCell, World.size_drew, Array.size_append]); omega) _ | with_reducible refine Gr.drew ?_)) ((by (try simp only [World.size_more, World.size_alloc, World.size_setCell, World.size_drew, Array.size_append]); omega)) (Bx.mk2 (by go_simp) (by go_simp) (by go_simp) (by go_simp))

/-- Region 20 of law3.MemFaults. -/
noncomputable def faults_r20_code : Code := ((Try.f9.body).bind (Code.findR 20)).getD .skip
set_option maxRecDepth 100000 in
set_option maxHeartbeats 4000000 in
theorem faults_r20 {Q : Exit → Act → World → Prop} {u0 u1 u2 u4 u6 u7 u8 u9 u10 u11 u12 u13 u14 u15 u16 u17 u18 u19 u20 u21 u22 u23 u24 u25 u26 u27 u28 u29 u30 u31 u32 u33 u34 u35 u36 u37 u38 u39 u40 u41 u42 u43 u44 u45 u46 u47 u48 u49 u50 u51 u52 u53 u54 u55 u56 u57 u58 u59 u60 u61 u62 u63 u64 u65 u66 u67 u68 u69 u70 u71 u72 u73 u74 u75 u76 u77 u78 u79 u80 u81 u82 u83 u84 u85 u86 u87 u88 u89 u90 u91 u92 u93 u94 u95 u96 u97 u98 u99 u100 u101 u102 u103 u104 u105 u106 u107 u108 u109 u110 u111 u112 u113 u114 u115 u116 u117 u118 u119 u120 u121 u122 u123 u124 u125 u126 u127 u128 u129 u130 u131 u132 u133 u134 : Value} {W : World} {b3 b5 : Nat} {P : List Int} {B : List UInt8} {a2 s2 v2 K A E : Int} {g2 : Bool} {lo3 : Nat} (h3 : SpBx lo3 W b3 P B) (h5 : Bx W b5 [.int .i64 a2, .int .i64 s2, .bool g2, .int .i64 v2]) (HX : CAcc P B a2 s2 2 K A E) (hQ : ∀ (z118 z119 z120 z121 z122 z123 z124 z117 z125 z126 : Value) (b22 : Nat) (W' : World), Gr W.heap.size W W' → W.heap.size ≤ b22 → Bx W' b22 [.int .i64 K, .int .i64 A] → Q .normal ⟨#[u0, u1, u2, .pointer (some ⟨b3, 0, none⟩), u4, .pointer (some ⟨b5, 0, none⟩), u6, u7, u8, u9, u10, u11, u12, u13, u14, u15, u16, u17, u18, u19, u20, u21, .pointer (some ⟨b22, 0, none⟩), .int .i64 E, u24, u25, u26, u27, u28, u29, u30, u31, u32, u33, u34, u35, u36, u37, u38, u39, u40, u41, u42, u43, u44, u45, u46, u47, u48, u49, u50, u51, u52, u53, u54, u55, u56, u57, u58, u59, u60, u61, u62, u63, u64, u65, u66, u67, u68, u69, u70, u71, u72, u73, u74, u75, u76, u77, u78, u79, u80, u81, u82, u83, u84, u85, u86, u87, u88, u89, u90, u91, u92, u93, u94, u95, u96, u97, u98, u99, u100, u101, u102, u103, u104, u105, u106, u107, u108, u109, u110, u111, u112, u113, u114, u115, u116, z117, z118, z119, z120, z121, z122, z123, z124, z125, z126, u127, u128, u129, u130, u131, u132, u133, u134], []⟩ W') : Code.wp Try.prog faults_r20_code Q ⟨#[u0, u1, u2, .pointer (some ⟨b3, 0, none⟩), u4, .pointer (some ⟨b5, 0, none⟩), u6, u7, u8, u9, u10, u11, u12, u13, u14, u15, u16, u17, u18, u19, u20, u21, u22, u23, u24, u25, u26, u27, u28, u29, u30, u31, u32, u33, u34, u35, u36, u37, u38, u39, u40, u41, u42, u43, u44, u45, u46, u47, u48, u49, u50, u51, u52, u53, u54, u55, u56, u57, u58, u59, u60, u61, u62, u63, u64, u65, u66, u67, u68, u69, u70, u71, u72, u73, u74, u75, u76, u77, u78, u79, u80, u81, u82, u83, u84, u85, u86, u87, u88, u89, u90, u91, u92, u93, u94, u95, u96, u97, u98, u99, u100, u101, u102, u103, u104, u105, u106, u107, u108, u109, u110, u111, u112, u113, u114, u115, u116, u117, u118, u119, u120, u121, u122, u123, u124, u125, u126, u127, u128, u129, u130, u131, u132, u133, u134], []⟩ W := by
  obtain ⟨p3, pc3, q3, qc3, x3, s3⟩ := h3
  have c3_0 := x3.get 0 _ rfl
  have c3_1 := x3.get 1 _ rfl
  have l3 := x3.lt
  have c5_0 := h5.get 0 _ rfl
  have c5_1 := h5.get 1 _ rfl
  have c5_2 := h5.get 2 _ rfl
  have c5_3 := h5.get 3 _ rfl
  have l5 := h5.lt
  conv => arg 2; whnf
  go_wp2_with first | (go_at_call 25; (refine (HX _ _ _ _ _ (s3.at.up (Gr.below (by repeat (first | (with_reducible exact Gr.refl _) | with_reducible refine Gr.alloc ?_ _ | with_reducible refine Gr.more ?_ _ _ | with_reducible refine Gr.setCell ?_ (by dsimp only; (try simp only [World.size_more, World.size_alloc, World.size_setCell, World.size_drew, Array.size_append]); omega) _ | with_reducible refine Gr.drew ?_))))).mono ?_); rintro e w1 ⟨rfl, hb⟩; obtain ⟨os, n, rfl⟩ := Below.moreE hb; clear hb)
  exact hQ _ _ _ _ _ _ _ _ _ _ _ _ (by repeat (first | (with_reducible exact Gr.refl _) | with_reducible refine Gr.alloc ?_ _ | with_reducible refine Gr.more ?_ _ _ | with_reducible refine Gr.setCell ?_ (by dsimp only; (try simp only [World.size_more, World.size_alloc, World.size_setCell, World.size_drew, Array.size_append]); omega) _ | with_reducible refine Gr.drew ?_)) ((by (try simp only [World.size_more, World.size_alloc, World.size_setCell, World.size_drew, Array.size_append]); omega)) (Bx.mk2 (by go_simp) (by go_simp) (by go_simp) (by go_simp))

theorem flt_step {P : List Int} {perm at0 : Int} {k : Nat} (h : fltK P perm at0 k = 0) : fltK P perm at0 (k + 1) = kindA P perm (adr at0 k) ∧ fltA P perm at0 (k + 1) = if kindA P perm (adr at0 k) = 0 then 0 else adr at0 k := by
  have hg := good_zero h
  have hs : goodA P perm at0 (k + 1) = if kindA P perm (adr at0 k) = 0 then k + 1 else k := by
    unfold goodA at hg ⊢
    rw [cnt, hg]
    by_cases c : kindA P perm (adr at0 k) = 0 <;> simp [okA, c]
  unfold fltK fltA
  rw [hs]
  by_cases c : kindA P perm (adr at0 k) = 0 <;> simp [c]
theorem flt_stop {P : List Int} {perm at0 : Int} {k n : Nat} (hk : k ≤ n) (h : fltK P perm at0 k ≠ 0) : fltK P perm at0 n = fltK P perm at0 k ∧ fltA P perm at0 n = fltA P perm at0 k := by
  have h1 : goodA P perm at0 k < k := by
    have := cnt_le (okA P perm at0) k
    have h2 : goodA P perm at0 k ≠ k := fun e => h (fltK_zero.2 e)
    unfold goodA at h2 ⊢
    omega
  have hs : goodA P perm at0 n = goodA P perm at0 k := by
    unfold goodA at h1 ⊢
    exact cnt_eq (by omega) (cnt_ok _ k) (fun _ => cnt_stop _ k h1)
  unfold fltK fltA
  rw [hs, if_neg (by omega), if_neg (by omega), if_neg (by omega), if_neg (by omega)]
  exact ⟨rfl, rfl⟩
theorem valid_nat {s : Int} (h : validB s = true) : s = (s.toNat : Int) ∧ s.toNat ≤ 2048 := by rcases valid_cases h with rfl | rfl | rfl | rfl <;> decide
theorem cLoad_any {P : List Int} {B : List UInt8} (hs : spB P B.length = true) (at0 : Int) {s : Int} (hv : validB s = true) (g : Bool) : ∃ V, CLoad P B at0 s g V (fltK P 1 at0 s.toNat) (fltA P 1 at0 s.toNat) 0 := by
  by_cases hf : fltK P 1 at0 s.toNat = 0
  · refine ⟨fbV s g (rdL B at0 s.toNat), ?_⟩
    rw [hf, fltA_zero hf]
    exact cLoad_ok hs at0 hv g hf
  · exact ⟨0, cLoad_flt hs at0 hv g hf⟩
theorem cStore_any {P : List Int} {B : List UInt8} (hs : spB P B.length = true) (at0 : Int) {s : Int} (hv : validB s = true) (g : Bool) (x : Int) : ∃ P' B', CStore P B at0 s g x P' B' (fltK P 2 at0 s.toNat) (fltA P 2 at0 s.toNat) 0 := by
  by_cases hf : fltK P 2 at0 s.toNat = 0
  · refine ⟨P, wrL B at0 (btL x s.toNat) s.toNat, ?_⟩
    rw [hf, fltA_zero hf]
    exact cStore_ok hs at0 hv g x hf
  · exact ⟨[], [], cStore_flt hs at0 hv g x hf⟩
theorem flt_at (P : List Int) (perm at0 : Int) (k : Nat) : fltK P perm (adr at0 k) 1 = kindA P perm (adr at0 k) ∧ fltA P perm (adr at0 k) 1 = if kindA P perm (adr at0 k) = 0 then 0 else adr at0 k := by
  rw [fltK_one, fltA_one, adr_adr0]
  exact ⟨rfl, rfl⟩

set_option maxRecDepth 100000 in
set_option maxHeartbeats 16000000 in
theorem faults_early (P : List Int) (p : Option Addr) (pc : Nat) (B : List UInt8) (q : Option Addr) (qc : Nat) (a n m a2 s2 : Int) (g2 : Bool) (v2 : Int) (K A E : Int) (hE : (E != 0) = true) (w : World) (hS : SpIn 0 w.heap.size w P p B q qc) (hA : CAcc P B a n m K A E) : Calls Try.prog 9 #[spV p P.length pc q B.length qc, .agg #[.int .i64 a, .int .i64 n, .int .i64 m], .agg #[.int .i64 a2, .int .i64 s2, .bool g2, .int .i64 v2]] w fun e w' => e = .returned (.bool true) ∧ Below w.heap.size w w' := by
  go_enter Try.func9, Try.ntmps9
  go_upto_region 1 with fail
  refine faults_r1 msane_any ?_
  intro _ W1 g1
  have h3 : SpBx 0 W1 (w.heap.size) P B := SpBx.up g1 ⟨p, pc, q, qc, Bx.mk2 (by go_simp) (by go_simp) (by go_simp) (by go_simp), (hS.up (by repeat (first | (with_reducible exact Gr.refl _) | with_reducible refine Gr.alloc ?_ _ | with_reducible refine Gr.more ?_ _ _ | with_reducible refine Gr.setCell ?_ (by dsimp only; (try simp only [World.size_more, World.size_alloc, World.size_setCell, World.size_drew, Array.size_append]); omega) _ | with_reducible refine Gr.drew ?_))).mono (by (try simp only [World.size_more, World.size_alloc, World.size_setCell, World.size_drew, Array.size_append]); omega) (by (try simp only [World.size_more, World.size_alloc, World.size_setCell, World.size_drew, Array.size_append]); omega)⟩
  have h4 : Bx W1 (w.heap.size + 1) [.int .i64 a, .int .i64 n, .int .i64 m] := Bx.up g1 (Bx.mk3 (by go_simp) (by go_simp) (by go_simp) (by go_simp) (by go_simp) (by go_simp))
  have h5 : Bx W1 (w.heap.size + 1 + 1) [.int .i64 a2, .int .i64 s2, .bool g2, .int .i64 v2] := Bx.up g1 (Bx.mk4 (by go_simp) (by go_simp) (by go_simp) (by go_simp) (by go_simp) (by go_simp) (by go_simp) (by go_simp))
  have hG : Gr w.heap.size w W1 := Gr.trans (by repeat (first | (with_reducible exact Gr.refl _) | with_reducible refine Gr.alloc ?_ _ | with_reducible refine Gr.more ?_ _ _ | with_reducible refine Gr.setCell ?_ (by dsimp only; (try simp only [World.size_more, World.size_alloc, World.size_setCell, World.size_drew, Array.size_append]); omega) _ | with_reducible refine Gr.drew ?_)) g1
  clear g1
  go_upto_region 2 with fail
  refine faults_r2 h3 h4 hA ?_
  intro _ _ _ _ _ _ _ _ _ _ _ b8 W2 g2 ge8 n8
  replace h3 := SpBx.up g2 h3
  replace h4 := Bx.up g2 h4
  replace h5 := Bx.up g2 h5
  have h8 := n8
  clear n8
  replace hG := Gr.trans hG g2
  clear g2
  go_wp2_with fail
  refine bodyPost_ret (v := .bool true) (by simp [results, Try.results9, go_sem]) rfl ⟨rfl, Gr.below (by repeat (first | (with_reducible exact hG) | with_reducible refine Gr.alloc ?_ _ | with_reducible refine Gr.more ?_ _ _ | with_reducible refine Gr.setCell ?_ (by dsimp only; (try simp only [World.size_more, World.size_alloc, World.size_setCell, World.size_drew, Array.size_append]); omega) _ | with_reducible refine Gr.drew ?_))⟩

set_option maxRecDepth 100000 in
set_option maxHeartbeats 16000000 in
theorem faults_main (P : List Int) (p : Option Addr) (pc : Nat) (B : List UInt8) (q : Option Addr) (qc : Nat) (a m a2 s2 : Int) (g2 : Bool) (v2 : Int) (N : Nat) (hN : N ≤ 2048) (hs : spB P B.length = true) (hm : m = 1 ∨ m = 2 ∨ m = 4) (w : World) (hS : SpIn 0 w.heap.size w P p B q qc) (hA : CAcc P B a N m (fltK P m a N) (fltA P m a N) 0) : Calls Try.prog 9 #[spV p P.length pc q B.length qc, .agg #[.int .i64 a, .int .i64 (N : Int), .int .i64 m], .agg #[.int .i64 a2, .int .i64 s2, .bool g2, .int .i64 v2]] w fun e w' => e = .returned (.bool true) ∧ Below w.heap.size w w' := by
  go_enter Try.func9, Try.ntmps9
  go_upto_region 1 with fail
  refine faults_r1 msane_any ?_
  intro _ W1 g1
  have h3 : SpBx 0 W1 (w.heap.size) P B := SpBx.up g1 ⟨p, pc, q, qc, Bx.mk2 (by go_simp) (by go_simp) (by go_simp) (by go_simp), (hS.up (by repeat (first | (with_reducible exact Gr.refl _) | with_reducible refine Gr.alloc ?_ _ | with_reducible refine Gr.more ?_ _ _ | with_reducible refine Gr.setCell ?_ (by dsimp only; (try simp only [World.size_more, World.size_alloc, World.size_setCell, World.size_drew, Array.size_append]); omega) _ | with_reducible refine Gr.drew ?_))).mono (by (try simp only [World.size_more, World.size_alloc, World.size_setCell, World.size_drew, Array.size_append]); omega) (by (try simp only [World.size_more, World.size_alloc, World.size_setCell, World.size_drew, Array.size_append]); omega)⟩
  have h4 : Bx W1 (w.heap.size + 1) [.int .i64 a, .int .i64 (N : Int), .int .i64 m] := Bx.up g1 (Bx.mk3 (by go_simp) (by go_simp) (by go_simp) (by go_simp) (by go_simp) (by go_simp))
  have h5 : Bx W1 (w.heap.size + 1 + 1) [.int .i64 a2, .int .i64 s2, .bool g2, .int .i64 v2] := Bx.up g1 (Bx.mk4 (by go_simp) (by go_simp) (by go_simp) (by go_simp) (by go_simp) (by go_simp) (by go_simp) (by go_simp))
  have hG : Gr w.heap.size w W1 := Gr.trans (by repeat (first | (with_reducible exact Gr.refl _) | with_reducible refine Gr.alloc ?_ _ | with_reducible refine Gr.more ?_ _ _ | with_reducible refine Gr.setCell ?_ (by dsimp only; (try simp only [World.size_more, World.size_alloc, World.size_setCell, World.size_drew, Array.size_append]); omega) _ | with_reducible refine Gr.drew ?_)) g1
  clear g1
  go_upto_region 2 with fail
  refine faults_r2 h3 h4 hA ?_
  intro _ _ _ _ _ _ _ _ _ _ _ b8 W2 g2 ge8 n8
  replace h3 := SpBx.up g2 h3
  replace h4 := Bx.up g2 h4
  replace h5 := Bx.up g2 h5
  have h8 := n8
  clear n8
  replace hG := Gr.trans hG g2
  clear g2
  have o5 := h5.lt
  have o8 := h8.lt
  go_upto_region 5 with fail
  refine faults_r5  ?_
  intro _ b10 W3 g3 ge10 n10
  replace h3 := SpBx.up g3 h3
  replace h4 := Bx.up g3 h4
  replace h5 := Bx.up g3 h5
  replace h8 := Bx.up g3 h8
  have h10 := n10
  clear n10
  replace hG := Gr.trans hG g3
  clear g3
  go_wp2_with fail
  go_loopw [11] (fun i wr => ∃ k : Nat, k ≤ N ∧ i = .int .i64 (k : Int) ∧ SpBx 0 wr (w.heap.size) P B ∧ Bx wr (w.heap.size + 1) [.int .i64 a, .int .i64 (N : Int), .int .i64 m] ∧ Bx wr (w.heap.size + 1 + 1) [.int .i64 a2, .int .i64 s2, .bool g2, .int .i64 v2] ∧ Bx wr b8 [.int .i64 (fltK P m a N), .int .i64 (fltA P m a N)] ∧ Bx wr b10 [.int .i64 (fltK P m a k), .int .i64 (fltA P m a k)] ∧ Gr w.heap.size w wr) (fun i _ => N - (intOf i).toNat)
  case atStart => exact ⟨0, Nat.zero_le _, rfl, h3, h4, h5, h8, h10, hG⟩
  case round =>
  clear h3 h4 h5 h8 h10 hG
  obtain ⟨k, hk, rfl, h3, h4, h5, h8, h10, hG⟩ := hrel
  have c4_1 := h4.get 1 _ rfl
  have c10_0 := h10.get 0 _ rfl
  by_cases hgo : k < N ∧ fltK P m a k = 0
  · obtain ⟨hkN, hf⟩ := hgo
    have hki : (k : Int) < (N : Int) := by omega
    have hf' : (fltK P m a k == 0) = true := beq_iff_eq.2 hf
    have hw1 : wrap64 ((k : Int) + 1) = (k : Int) + 1 := by unfold wrap64; omega
    have hst := flt_step hf
    have hat := flt_at P m a k
    have HX := cAcc_ok (B := B) hs (adr a k) (n := 1) (k := 1) rfl (by decide) hm
    rw [hat.1, hat.2, ← hst.2, ← hst.1] at HX
    go_upto_region 9 with fail
    refine faults_r9 h3 h4 rfl HX ?_
    intro _ _ _ _ _ _ _ _ _ _ _ b12 W11 g11 ge12 n12
    replace h3 := SpBx.up g11 h3
    replace h4 := Bx.up g11 h4
    replace h5 := Bx.up g11 h5
    replace h8 := Bx.up g11 h8
    replace h10 := Bx.up g11 h10
    have h12 := n12
    clear n12
    replace hG := Gr.trans hG g11
    clear g11
    clear c4_1 c10_0
    have c10_0 := h10.get 0 _ rfl
    have hge := h10.lt
    go_upto_region 12 with fail
    refine faults_r12 h12 h10 ?_
    intro _  W12 g12 n10
    replace h3 := h3.caught g12 (by omega) (by omega)
    replace h4 := h4.caught g12 (by omega)
    replace h5 := h5.caught g12 (by omega)
    replace h8 := h8.caught g12 (by omega)
    replace h10 := n10
    clear n10
    clear h12
    replace hG := Gr.caught hG g12 (by omega)
    clear g12
    go_wp2_with fail
    go_roundw
    case rel => exact ⟨k + 1, hkN, by go_num, h3, h4, h5, h8, h10, hG⟩
    case measure => simp [intOf]; omega
  · have hEnd : fltK P m a k = fltK P m a N ∧ fltA P m a k = fltA P m a N := by
      by_cases c : k = N
      · subst c; exact ⟨rfl, rfl⟩
      · have h := flt_stop hk (fun e => hgo ⟨by omega, e⟩)
        exact ⟨h.1.symm, h.2.symm⟩
    have c8_0 := h8.get 0 _ rfl
    have c8_1 := h8.get 1 _ rfl
    have c10_1 := h10.get 1 _ rfl
    have o10 := h10.lt
    have ob8 := h8.lt
    have hstop : ¬ (k : Int) < (N : Int) ∨ ((k : Int) < (N : Int) ∧ (fltK P m a N == 0) = false) := by
      by_cases c : k < N
      · refine .inr ⟨by omega, ?_⟩
        rw [← hEnd.1]
        exact beq_eq_false_iff_ne.2 (fun e => hgo ⟨c, e⟩)
      · exact .inl (by omega)
    rw [hEnd.1] at c10_0 h10
    rw [hEnd.2] at c10_1 h10
    clear hEnd hgo hk hm
    cases hv : validB s2
    · have HL := cLoad_type (B := B) hs a2 hv g2
      have HT := cStore_type (B := B) hs a2 hv g2 v2
      clear hv hs
      rcases hstop with hki | ⟨hki, hne⟩
      all_goals
        go_upto_region 15 with fail
        refine faults_r15 h3 h5 HL ?_
        intro _ _ _ _ _ _ _ _ _ _ b15 W21 g21 ge15 n15
        replace h3 := SpBx.up g21 h3
        replace h4 := Bx.up g21 h4
        replace h5 := Bx.up g21 h5
        replace h8 := Bx.up g21 h8
        replace h10 := Bx.up g21 h10
        have h15 := n15
        clear n15
        replace hG := Gr.trans hG g21
        clear g21
        go_upto_region 16 with fail
        refine faults_r16 h3 h5 HT ?_
        intro _ _ _ _ _ _ _ _ _ _ _ _ b17 b18 W22 g22 ge17 n17 ge18 n18
        replace h3 := SpBx.up g22 h3
        replace h4 := Bx.up g22 h4
        replace h5 := Bx.up g22 h5
        replace h8 := Bx.up g22 h8
        replace h10 := Bx.up g22 h10
        replace h15 := Bx.up g22 h15
        have h17 := n17
        clear n17
        have h18 := n18
        clear n18
        replace hG := Gr.trans hG g22
        clear g22
        go_wp2_with fail
        refine bodyPost_ret (v := .bool true) (by simp [results, Try.results9, go_sem]) rfl ⟨rfl, Gr.below (by repeat (first | (with_reducible exact hG) | with_reducible refine Gr.alloc ?_ _ | with_reducible refine Gr.more ?_ _ _ | with_reducible refine Gr.setCell ?_ (by dsimp only; (try simp only [World.size_more, World.size_alloc, World.size_setCell, World.size_drew, Array.size_append]); omega) _ | with_reducible refine Gr.drew ?_))⟩
    · obtain ⟨V, HL⟩ := cLoad_any (B := B) hs a2 hv g2
      obtain ⟨P', B', HT⟩ := cStore_any (B := B) hs a2 hv g2 v2
      have hb := valid_nat hv
      have H1 := cAcc_ok (B := B) hs a2 hb.1 hb.2 (m := 1) (.inl rfl)
      have H2 := cAcc_ok (B := B) hs a2 hb.1 hb.2 (m := 2) (.inr (.inl rfl))
      generalize fltK P 1 a2 s2.toNat = K1 at *
      generalize fltA P 1 a2 s2.toNat = A1 at *
      generalize fltK P 2 a2 s2.toNat = K2 at *
      generalize fltA P 2 a2 s2.toNat = A2 at *
      clear hv hs hb
      rcases hstop with hki | ⟨hki, hne⟩
      all_goals
        go_upto_region 15 with fail
        refine faults_r15 h3 h5 HL ?_
        intro _ _ _ _ _ _ _ _ _ _ b15 W21 g21 ge15 n15
        replace h3 := SpBx.up g21 h3
        replace h4 := Bx.up g21 h4
        replace h5 := Bx.up g21 h5
        replace h8 := Bx.up g21 h8
        replace h10 := Bx.up g21 h10
        have h15 := n15
        clear n15
        replace hG := Gr.trans hG g21
        clear g21
        go_upto_region 16 with fail
        refine faults_r16 h3 h5 HT ?_
        intro _ _ _ _ _ _ _ _ _ _ _ _ b17 b18 W22 g22 ge17 n17 ge18 n18
        replace h3 := SpBx.up g22 h3
        replace h4 := Bx.up g22 h4
        replace h5 := Bx.up g22 h5
        replace h8 := Bx.up g22 h8
        replace h10 := Bx.up g22 h10
        replace h15 := Bx.up g22 h15
        have h17 := n17
        clear n17
        have h18 := n18
        clear n18
        replace hG := Gr.trans hG g22
        clear g22
        go_upto_region 19 with fail
        refine faults_r19 h3 h5 H1 ?_
        intro _ _ _ _ _ _ _ _ _ _ b20 W23 g23 ge20 n20
        replace h3 := SpBx.up g23 h3
        replace h4 := Bx.up g23 h4
        replace h5 := Bx.up g23 h5
        replace h8 := Bx.up g23 h8
        replace h10 := Bx.up g23 h10
        replace h15 := Bx.up g23 h15
        replace h17 := SpBx.up g23 h17
        replace h18 := Bx.up g23 h18
        have h20 := n20
        clear n20
        replace hG := Gr.trans hG g23
        clear g23
        go_upto_region 20 with fail
        refine faults_r20 h3 h5 H2 ?_
        intro _ _ _ _ _ _ _ _ _ _ b22 W24 g24 ge22 n22
        replace h3 := SpBx.up g24 h3
        replace h4 := Bx.up g24 h4
        replace h5 := Bx.up g24 h5
        replace h8 := Bx.up g24 h8
        replace h10 := Bx.up g24 h10
        replace h15 := Bx.up g24 h15
        replace h17 := SpBx.up g24 h17
        replace h18 := Bx.up g24 h18
        replace h20 := Bx.up g24 h20
        have h22 := n22
        clear n22
        replace hG := Gr.trans hG g24
        clear g24
        have e15_0 := h15.get 0 _ rfl
        have e15_1 := h15.get 1 _ rfl
        have e18_0 := h18.get 0 _ rfl
        have e18_1 := h18.get 1 _ rfl
        have e20_0 := h20.get 0 _ rfl
        have e20_1 := h20.get 1 _ rfl
        have e22_0 := h22.get 0 _ rfl
        have e22_1 := h22.get 1 _ rfl
        go_wp2_with fail
        refine bodyPost_ret (v := .bool true) (by simp [results, Try.results9, go_sem]) rfl ⟨rfl, Gr.below (by repeat (first | (with_reducible exact hG) | with_reducible refine Gr.alloc ?_ _ | with_reducible refine Gr.more ?_ _ _ | with_reducible refine Gr.setCell ?_ (by dsimp only; (try simp only [World.size_more, World.size_alloc, World.size_setCell, World.size_drew, Array.size_append]); omega) _ | with_reducible refine Gr.drew ?_))⟩

theorem law_faults (w : World) (P : List Int) (p : Option Addr) (pc : Nat) (B : List UInt8) (q : Option Addr) (qc : Nat) (hS : SpIn 0 w.heap.size w P p B q qc) (a n m : Int) (_ : I64 a) (_ : I64 n) (_ : I64 m) (a2 s2 : Int) (g2 : Bool) (v2 : Int) (_ : I64 a2) (_ : I64 s2) (_ : I64 v2) : Calls Try.prog 9 #[spV p P.length pc q B.length qc, .agg #[.int .i64 a, .int .i64 n, .int .i64 m], .agg #[.int .i64 a2, .int .i64 s2, .bool g2, .int .i64 v2]] w fun e w' => e = .returned (.bool true) ∧ Below w.heap.size w w' := by
  cases hs : spB P B.length
  · exact faults_early P p pc B q qc a n m a2 s2 g2 v2 0 0 30 rfl w hS (cAcc_bad hs a n m)
  · by_cases hn : n < 0 ∨ 2048 < n ∨ (m ≠ 1 ∧ m ≠ 2 ∧ m ≠ 4)
    · exact faults_early P p pc B q qc a n m a2 s2 g2 v2 0 0 1 rfl w hS (cAcc_arg hs a n m hn)
    · obtain ⟨N, rfl⟩ := nat_of (n := n) (by omega)
      have hm : m = 1 ∨ m = 2 ∨ m = 4 := by omega
      exact faults_main P p pc B q qc a m a2 s2 g2 v2 N (by omega) hs hm w hS (cAcc_ok hs a rfl (by omega) hm)
end Go.Proofs.Ytbfakdbhmpjmlaa
