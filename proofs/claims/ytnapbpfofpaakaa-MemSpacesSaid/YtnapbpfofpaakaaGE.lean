/-
  The law MemFaults (made by genzq.py).
  apart; the law MemApart (made by genzr.py).
  Layer 3, the laws: Diff's list; the bytes of Peek as a row of their own.
-/
import Derived.Test.YtnapbpfofpaakaaGD
import Derived.Test.YtnapbpfofpaakaaGA
import Derived.Test.YtnapbpfofpaakaaGC
namespace Go.Proofs.Ytnapbpfofpaakaa
open Go.RowKit

/-- Region 1 of law3.MemFaults. -/
noncomputable def faults_r1_code : Code := ((Try.f9.body).bind (Code.findR 1)).getD .skip
set_option maxRecDepth 100000 in
set_option maxHeartbeats 4000000 in
theorem faults_r1 {Q : Exit → Act → World → Prop} {u0 u1 u2 u3 u4 u5 u6 u7 u8 u9 u10 u11 u12 u13 u14 u15 u16 u17 u18 u19 u20 u21 u22 u23 u24 u25 u26 u27 u28 u29 u30 u31 u32 u33 u34 u35 u36 u37 u38 u39 u40 u41 u42 u43 u44 u45 u46 u47 u48 u49 u50 u51 u52 u53 u54 u55 u56 u57 u58 u59 u60 u61 u62 u63 u64 u65 u66 u67 u68 u69 u70 u71 u72 u73 u74 u75 u76 u77 u78 u79 u80 u81 u82 u83 u84 u85 u86 u87 u88 u89 u90 u91 u92 u93 u94 u95 u96 u97 u98 u99 u100 u101 u102 u103 u104 u105 u106 u107 u108 u109 u110 u111 u112 u113 u114 u115 u116 u117 u118 u119 u120 u121 u122 u123 u124 u125 u126 u127 u128 u129 u130 u131 u132 u133 u134 : Value} {W : World}      (HX : ∀ w, Calls Try.prog 14 #[] w fun e w' => e = .returned (.bool true) ∧ Below w.heap.size w w') (hQ : ∀ (z24 : Value) (W' : World), Gr W.heap.size W W' → Q .normal ⟨#[u0, u1, u2, u3, u4, u5, u6, .bool true, u8, u9, u10, u11, u12, u13, u14, u15, u16, u17, u18, u19, u20, u21, u22, u23, z24, u25, u26, u27, u28, u29, u30, u31, u32, u33, u34, u35, u36, u37, u38, u39, u40, u41, u42, u43, u44, u45, u46, u47, u48, u49, u50, u51, u52, u53, u54, u55, u56, u57, u58, u59, u60, u61, u62, u63, u64, u65, u66, u67, u68, u69, u70, u71, u72, u73, u74, u75, u76, u77, u78, u79, u80, u81, u82, u83, u84, u85, u86, u87, u88, u89, u90, u91, u92, u93, u94, u95, u96, u97, u98, u99, u100, u101, u102, u103, u104, u105, u106, u107, u108, u109, u110, u111, u112, u113, u114, u115, u116, u117, u118, u119, u120, u121, u122, u123, u124, u125, u126, u127, u128, u129, u130, u131, u132, u133, u134], []⟩ W') : Code.wp Try.prog faults_r1_code Q ⟨#[u0, u1, u2, u3, u4, u5, u6, u7, u8, u9, u10, u11, u12, u13, u14, u15, u16, u17, u18, u19, u20, u21, u22, u23, u24, u25, u26, u27, u28, u29, u30, u31, u32, u33, u34, u35, u36, u37, u38, u39, u40, u41, u42, u43, u44, u45, u46, u47, u48, u49, u50, u51, u52, u53, u54, u55, u56, u57, u58, u59, u60, u61, u62, u63, u64, u65, u66, u67, u68, u69, u70, u71, u72, u73, u74, u75, u76, u77, u78, u79, u80, u81, u82, u83, u84, u85, u86, u87, u88, u89, u90, u91, u92, u93, u94, u95, u96, u97, u98, u99, u100, u101, u102, u103, u104, u105, u106, u107, u108, u109, u110, u111, u112, u113, u114, u115, u116, u117, u118, u119, u120, u121, u122, u123, u124, u125, u126, u127, u128, u129, u130, u131, u132, u133, u134], []⟩ W := by
  conv => arg 2; whnf
  go_wp2_with first | (go_at_call 14; (refine (HX _).mono ?_); rintro e w1 ⟨rfl, hb⟩; obtain ⟨os, n, rfl⟩ := Below.moreE hb; clear hb)
  first | exact (by repeat (first | (with_reducible exact Gr.refl _) | with_reducible refine Gr.alloc ?_ _ | with_reducible refine Gr.more ?_ _ _ | with_reducible refine Gr.setCell ?_ (by dsimp only; (try simp only [World.size_more, World.size_alloc, World.size_setCell, World.size_drew, Array.size_append]); omega) _ | with_reducible refine Gr.drew ?_)) | exact hQ _ _ (by repeat (first | (with_reducible exact Gr.refl _) | with_reducible refine Gr.alloc ?_ _ | with_reducible refine Gr.more ?_ _ _ | with_reducible refine Gr.setCell ?_ (by dsimp only; (try simp only [World.size_more, World.size_alloc, World.size_setCell, World.size_drew, Array.size_append]); omega) _ | with_reducible refine Gr.drew ?_)) 

/-- Region 2 of law3.MemFaults. -/
noncomputable def faults_r2_code : Code := ((Try.f9.body).bind (Code.findR 2)).getD .skip
set_option maxRecDepth 100000 in
set_option maxHeartbeats 4000000 in
theorem faults_r2 {Q : Exit → Act → World → Prop} {u0 u1 u2 u5 u6 u7 u8 u9 u10 u11 u12 u13 u14 u15 u16 u17 u18 u19 u20 u21 u22 u23 u24 u25 u26 u27 u28 u29 u30 u31 u32 u33 u34 u35 u36 u37 u38 u39 u40 u41 u42 u43 u44 u45 u46 u47 u48 u49 u50 u51 u52 u53 u54 u55 u56 u57 u58 u59 u60 u61 u62 u63 u64 u65 u66 u67 u68 u69 u70 u71 u72 u73 u74 u75 u76 u77 u78 u79 u80 u81 u82 u83 u84 u85 u86 u87 u88 u89 u90 u91 u92 u93 u94 u95 u96 u97 u98 u99 u100 u101 u102 u103 u104 u105 u106 u107 u108 u109 u110 u111 u112 u113 u114 u115 u116 u117 u118 u119 u120 u121 u122 u123 u124 u125 u126 u127 u128 u129 u130 u131 u132 u133 u134 : Value} {W : World} {b3 b4 : Nat} {P : List Int} {B : List UInt8} {a n m K A E : Int}  {lo3 : Nat} (h3 : SpBx lo3 W b3 P B) (h4 : Bx W b4 [.int .i64 a, .int .i64 n, .int .i64 m]) (HX : CAcc P B a n m K A E) (hQ : ∀ (z26 z27 z28 z29 z30 z31 z32 z33 z25 z34 z35 : Value) (b8 : Nat) (W' : World), Gr W.heap.size W W' → W.heap.size ≤ b8 → Bx W' b8 [.int .i64 K, .int .i64 A] → Q .normal ⟨#[u0, u1, u2, .pointer (some ⟨b3, 0, none⟩), .pointer (some ⟨b4, 0, none⟩), u5, u6, u7, .pointer (some ⟨b8, 0, none⟩), .int .i64 E, u10, u11, u12, u13, u14, u15, u16, u17, u18, u19, u20, u21, u22, u23, u24, z25, z26, z27, z28, z29, z30, z31, z32, z33, z34, z35, u36, u37, u38, u39, u40, u41, u42, u43, u44, u45, u46, u47, u48, u49, u50, u51, u52, u53, u54, u55, u56, u57, u58, u59, u60, u61, u62, u63, u64, u65, u66, u67, u68, u69, u70, u71, u72, u73, u74, u75, u76, u77, u78, u79, u80, u81, u82, u83, u84, u85, u86, u87, u88, u89, u90, u91, u92, u93, u94, u95, u96, u97, u98, u99, u100, u101, u102, u103, u104, u105, u106, u107, u108, u109, u110, u111, u112, u113, u114, u115, u116, u117, u118, u119, u120, u121, u122, u123, u124, u125, u126, u127, u128, u129, u130, u131, u132, u133, u134], []⟩ W') : Code.wp Try.prog faults_r2_code Q ⟨#[u0, u1, u2, .pointer (some ⟨b3, 0, none⟩), .pointer (some ⟨b4, 0, none⟩), u5, u6, u7, u8, u9, u10, u11, u12, u13, u14, u15, u16, u17, u18, u19, u20, u21, u22, u23, u24, u25, u26, u27, u28, u29, u30, u31, u32, u33, u34, u35, u36, u37, u38, u39, u40, u41, u42, u43, u44, u45, u46, u47, u48, u49, u50, u51, u52, u53, u54, u55, u56, u57, u58, u59, u60, u61, u62, u63, u64, u65, u66, u67, u68, u69, u70, u71, u72, u73, u74, u75, u76, u77, u78, u79, u80, u81, u82, u83, u84, u85, u86, u87, u88, u89, u90, u91, u92, u93, u94, u95, u96, u97, u98, u99, u100, u101, u102, u103, u104, u105, u106, u107, u108, u109, u110, u111, u112, u113, u114, u115, u116, u117, u118, u119, u120, u121, u122, u123, u124, u125, u126, u127, u128, u129, u130, u131, u132, u133, u134], []⟩ W := by
  obtain ⟨p3, pc3, q3, qc3, x3, s3⟩ := h3
  have c3_0 := x3.get 0 _ rfl
  have c3_1 := x3.get 1 _ rfl
  have l3 := x3.lt
  have c4_0 := h4.get 0 _ rfl
  have c4_1 := h4.get 1 _ rfl
  have c4_2 := h4.get 2 _ rfl
  have l4 := h4.lt
  conv => arg 2; whnf
  go_wp2_with first | (go_at_call 25; (refine (HX _ _ _ _ _ (s3.at.up (Gr.below (by repeat (first | (with_reducible exact Gr.refl _) | with_reducible refine Gr.alloc ?_ _ | with_reducible refine Gr.more ?_ _ _ | with_reducible refine Gr.setCell ?_ (by dsimp only; (try simp only [World.size_more, World.size_alloc, World.size_setCell, World.size_drew, Array.size_append]); omega) _ | with_reducible refine Gr.drew ?_))))).mono ?_); rintro e w1 ⟨rfl, hb⟩; obtain ⟨os, n, rfl⟩ := Below.moreE hb; clear hb)
  exact hQ _ _ _ _ _ _ _ _ _ _ _ _ _ (by repeat (first | (with_reducible exact Gr.refl _) | with_reducible refine Gr.alloc ?_ _ | with_reducible refine Gr.more ?_ _ _ | with_reducible refine Gr.setCell ?_ (by dsimp only; (try simp only [World.size_more, World.size_alloc, World.size_setCell, World.size_drew, Array.size_append]); omega) _ | with_reducible refine Gr.drew ?_)) ((by (try simp only [World.size_more, World.size_alloc, World.size_setCell, World.size_drew, Array.size_append]); omega)) (Bx.mk2 (by go_simp) (by go_simp) (by go_simp) (by go_simp))

/-- Region 5 of law3.MemFaults. -/
noncomputable def faults_r5_code : Code := ((Try.f9.body).bind (Code.findR 5)).getD .skip
set_option maxRecDepth 100000 in
set_option maxHeartbeats 4000000 in
theorem faults_r5 {Q : Exit → Act → World → Prop} {u0 u1 u2 u3 u4 u5 u6 u7 u8 u9 u10 u11 u12 u13 u14 u15 u16 u17 u18 u19 u20 u21 u22 u23 u24 u25 u26 u27 u28 u29 u30 u31 u32 u33 u34 u35 u36 u37 u38 u39 u40 u41 u42 u43 u44 u45 u46 u47 u48 u49 u50 u51 u52 u53 u54 u55 u56 u57 u58 u59 u60 u61 u62 u63 u64 u65 u66 u67 u68 u69 u70 u71 u72 u73 u74 u75 u76 u77 u78 u79 u80 u81 u82 u83 u84 u85 u86 u87 u88 u89 u90 u91 u92 u93 u94 u95 u96 u97 u98 u99 u100 u101 u102 u103 u104 u105 u106 u107 u108 u109 u110 u111 u112 u113 u114 u115 u116 u117 u118 u119 u120 u121 u122 u123 u124 u125 u126 u127 u128 u129 u130 u131 u132 u133 u134 : Value} {W : World}       (hQ : ∀ (z43 : Value) (b10 : Nat) (W' : World), Gr W.heap.size W W' → W.heap.size ≤ b10 → Bx W' b10 [.int .i64 0, .int .i64 0] → Q .normal ⟨#[u0, u1, u2, u3, u4, u5, u6, u7, u8, u9, .pointer (some ⟨b10, 0, none⟩), u11, u12, u13, u14, u15, u16, u17, u18, u19, u20, u21, u22, u23, u24, u25, u26, u27, u28, u29, u30, u31, u32, u33, u34, u35, u36, u37, u38, u39, u40, u41, u42, z43, u44, u45, u46, u47, u48, u49, u50, u51, u52, u53, u54, u55, u56, u57, u58, u59, u60, u61, u62, u63, u64, u65, u66, u67, u68, u69, u70, u71, u72, u73, u74, u75, u76, u77, u78, u79, u80, u81, u82, u83, u84, u85, u86, u87, u88, u89, u90, u91, u92, u93, u94, u95, u96, u97, u98, u99, u100, u101, u102, u103, u104, u105, u106, u107, u108, u109, u110, u111, u112, u113, u114, u115, u116, u117, u118, u119, u120, u121, u122, u123, u124, u125, u126, u127, u128, u129, u130, u131, u132, u133, u134], []⟩ W') : Code.wp Try.prog faults_r5_code Q ⟨#[u0, u1, u2, u3, u4, u5, u6, u7, u8, u9, u10, u11, u12, u13, u14, u15, u16, u17, u18, u19, u20, u21, u22, u23, u24, u25, u26, u27, u28, u29, u30, u31, u32, u33, u34, u35, u36, u37, u38, u39, u40, u41, u42, u43, u44, u45, u46, u47, u48, u49, u50, u51, u52, u53, u54, u55, u56, u57, u58, u59, u60, u61, u62, u63, u64, u65, u66, u67, u68, u69, u70, u71, u72, u73, u74, u75, u76, u77, u78, u79, u80, u81, u82, u83, u84, u85, u86, u87, u88, u89, u90, u91, u92, u93, u94, u95, u96, u97, u98, u99, u100, u101, u102, u103, u104, u105, u106, u107, u108, u109, u110, u111, u112, u113, u114, u115, u116, u117, u118, u119, u120, u121, u122, u123, u124, u125, u126, u127, u128, u129, u130, u131, u132, u133, u134], []⟩ W := by
  conv => arg 2; whnf
  go_wp2_with fail
  exact hQ _ _ _ (by repeat (first | (with_reducible exact Gr.refl _) | with_reducible refine Gr.alloc ?_ _ | with_reducible refine Gr.more ?_ _ _ | with_reducible refine Gr.setCell ?_ (by dsimp only; (try simp only [World.size_more, World.size_alloc, World.size_setCell, World.size_drew, Array.size_append]); omega) _ | with_reducible refine Gr.drew ?_)) ((by (try simp only [World.size_more, World.size_alloc, World.size_setCell, World.size_drew, Array.size_append]); omega)) (Bx.mk2 (by go_simp) (by go_simp) (by go_simp) (by go_simp))

/-- Region 9 of law3.MemFaults. -/
noncomputable def faults_r9_code : Code := ((Try.f9.body).bind (Code.findR 9)).getD .skip
set_option maxRecDepth 100000 in
set_option maxHeartbeats 4000000 in
theorem faults_r9 {Q : Exit → Act → World → Prop} {u0 u1 u2 u5 u6 u7 u8 u9 u10 u12 u13 u14 u15 u16 u17 u18 u19 u20 u21 u22 u23 u24 u25 u26 u27 u28 u29 u30 u31 u32 u33 u34 u35 u36 u37 u38 u39 u40 u41 u42 u43 u44 u45 u46 u47 u48 u49 u50 u51 u52 u53 u54 u55 u56 u57 u58 u59 u60 u61 u62 u63 u64 u65 u66 u67 u68 u69 u70 u71 u72 u73 u74 u75 u76 u77 u78 u79 u80 u81 u82 u83 u84 u85 u86 u87 u88 u89 u90 u91 u92 u93 u94 u95 u96 u97 u98 u99 u100 u101 u102 u103 u104 u105 u106 u107 u108 u109 u110 u111 u112 u113 u114 u115 u116 u117 u118 u119 u120 u121 u122 u123 u124 u125 u126 u127 u128 u129 u130 u131 u132 u133 u134 : Value} {W : World} {b3 b4 : Nat} {P : List Int} {B : List UInt8} {a n m a2 K A E i : Int}  {lo3 : Nat} (h3 : SpBx lo3 W b3 P B) (h4 : Bx W b4 [.int .i64 a, .int .i64 n, .int .i64 m]) (ha : wrap64 (a + i) = a2) (HX : CAcc P B a2 1 m K A E) (hQ : ∀ (z56 z57 z58 z59 z60 z61 z62 z63 z55 z64 z65 : Value) (b12 : Nat) (W' : World), Gr W.heap.size W W' → W.heap.size ≤ b12 → Bx W' b12 [.int .i64 K, .int .i64 A] → Q .normal ⟨#[u0, u1, u2, .pointer (some ⟨b3, 0, none⟩), .pointer (some ⟨b4, 0, none⟩), u5, u6, u7, u8, u9, u10, .int .i64 i, .pointer (some ⟨b12, 0, none⟩), .int .i64 E, u14, u15, u16, u17, u18, u19, u20, u21, u22, u23, u24, u25, u26, u27, u28, u29, u30, u31, u32, u33, u34, u35, u36, u37, u38, u39, u40, u41, u42, u43, u44, u45, u46, u47, u48, u49, u50, u51, u52, u53, u54, z55, z56, z57, z58, z59, z60, z61, z62, z63, z64, z65, u66, u67, u68, u69, u70, u71, u72, u73, u74, u75, u76, u77, u78, u79, u80, u81, u82, u83, u84, u85, u86, u87, u88, u89, u90, u91, u92, u93, u94, u95, u96, u97, u98, u99, u100, u101, u102, u103, u104, u105, u106, u107, u108, u109, u110, u111, u112, u113, u114, u115, u116, u117, u118, u119, u120, u121, u122, u123, u124, u125, u126, u127, u128, u129, u130, u131, u132, u133, u134], []⟩ W') : Code.wp Try.prog faults_r9_code Q ⟨#[u0, u1, u2, .pointer (some ⟨b3, 0, none⟩), .pointer (some ⟨b4, 0, none⟩), u5, u6, u7, u8, u9, u10, .int .i64 i, u12, u13, u14, u15, u16, u17, u18, u19, u20, u21, u22, u23, u24, u25, u26, u27, u28, u29, u30, u31, u32, u33, u34, u35, u36, u37, u38, u39, u40, u41, u42, u43, u44, u45, u46, u47, u48, u49, u50, u51, u52, u53, u54, u55, u56, u57, u58, u59, u60, u61, u62, u63, u64, u65, u66, u67, u68, u69, u70, u71, u72, u73, u74, u75, u76, u77, u78, u79, u80, u81, u82, u83, u84, u85, u86, u87, u88, u89, u90, u91, u92, u93, u94, u95, u96, u97, u98, u99, u100, u101, u102, u103, u104, u105, u106, u107, u108, u109, u110, u111, u112, u113, u114, u115, u116, u117, u118, u119, u120, u121, u122, u123, u124, u125, u126, u127, u128, u129, u130, u131, u132, u133, u134], []⟩ W := by
  obtain ⟨p3, pc3, q3, qc3, x3, s3⟩ := h3
  have c3_0 := x3.get 0 _ rfl
  have c3_1 := x3.get 1 _ rfl
  have l3 := x3.lt
  have c4_0 := h4.get 0 _ rfl
  have c4_1 := h4.get 1 _ rfl
  have c4_2 := h4.get 2 _ rfl
  have l4 := h4.lt
  conv => arg 2; whnf
  go_wp2_with first | (go_at_call 25; (refine (HX _ _ _ _ _ (s3.at.up (Gr.below (by repeat (first | (with_reducible exact Gr.refl _) | with_reducible refine Gr.alloc ?_ _ | with_reducible refine Gr.more ?_ _ _ | with_reducible refine Gr.setCell ?_ (by dsimp only; (try simp only [World.size_more, World.size_alloc, World.size_setCell, World.size_drew, Array.size_append]); omega) _ | with_reducible refine Gr.drew ?_))))).mono ?_); rintro e w1 ⟨rfl, hb⟩; obtain ⟨os, n, rfl⟩ := Below.moreE hb; clear hb)
  exact hQ _ _ _ _ _ _ _ _ _ _ _ _ _ (by repeat (first | (with_reducible exact Gr.refl _) | with_reducible refine Gr.alloc ?_ _ | with_reducible refine Gr.more ?_ _ _ | with_reducible refine Gr.setCell ?_ (by dsimp only; (try simp only [World.size_more, World.size_alloc, World.size_setCell, World.size_drew, Array.size_append]); omega) _ | with_reducible refine Gr.drew ?_)) ((by (try simp only [World.size_more, World.size_alloc, World.size_setCell, World.size_drew, Array.size_append]); omega)) (Bx.mk2 (by go_simp) (by go_simp) (by go_simp) (by go_simp))

/-- Region 12 of law3.MemFaults. -/
noncomputable def faults_r12_code : Code := ((Try.f9.body).bind (Code.findR 12)).getD .skip
set_option maxRecDepth 100000 in
set_option maxHeartbeats 4000000 in
theorem faults_r12 {Q : Exit → Act → World → Prop} {u0 u1 u2 u3 u4 u5 u6 u7 u8 u9 u11 u13 u14 u15 u16 u17 u18 u19 u20 u21 u22 u23 u24 u25 u26 u27 u28 u29 u30 u31 u32 u33 u34 u35 u36 u37 u38 u39 u40 u41 u42 u43 u44 u45 u46 u47 u48 u49 u50 u51 u52 u53 u54 u55 u56 u57 u58 u59 u60 u61 u62 u63 u64 u65 u66 u67 u68 u69 u70 u71 u72 u73 u74 u75 u76 u77 u78 u79 u80 u81 u82 u83 u84 u85 u86 u87 u88 u89 u90 u91 u92 u93 u94 u95 u96 u97 u98 u99 u100 u101 u102 u103 u104 u105 u106 u107 u108 u109 u110 u111 u112 u113 u114 u115 u116 u117 u118 u119 u120 u121 u122 u123 u124 u125 u126 u127 u128 u129 u130 u131 u132 u133 u134 : Value} {W : World} {b12 b10 : Nat}   {K A K0 A0 : Int}  (h12 : Bx W b12 [.int .i64 K, .int .i64 A]) (h10 : Bx W b10 [.int .i64 K0, .int .i64 A0])  (hQ : ∀ (z68 : Value) (W' : World), Caught b10 W W' → Bx W' b10 [.int .i64 K, .int .i64 A] → Q .normal ⟨#[u0, u1, u2, u3, u4, u5, u6, u7, u8, u9, .pointer (some ⟨b10, 0, none⟩), u11, .pointer (some ⟨b12, 0, none⟩), u13, u14, u15, u16, u17, u18, u19, u20, u21, u22, u23, u24, u25, u26, u27, u28, u29, u30, u31, u32, u33, u34, u35, u36, u37, u38, u39, u40, u41, u42, u43, u44, u45, u46, u47, u48, u49, u50, u51, u52, u53, u54, u55, u56, u57, u58, u59, u60, u61, u62, u63, u64, u65, u66, u67, z68, u69, u70, u71, u72, u73, u74, u75, u76, u77, u78, u79, u80, u81, u82, u83, u84, u85, u86, u87, u88, u89, u90, u91, u92, u93, u94, u95, u96, u97, u98, u99, u100, u101, u102, u103, u104, u105, u106, u107, u108, u109, u110, u111, u112, u113, u114, u115, u116, u117, u118, u119, u120, u121, u122, u123, u124, u125, u126, u127, u128, u129, u130, u131, u132, u133, u134], []⟩ W') : Code.wp Try.prog faults_r12_code Q ⟨#[u0, u1, u2, u3, u4, u5, u6, u7, u8, u9, .pointer (some ⟨b10, 0, none⟩), u11, .pointer (some ⟨b12, 0, none⟩), u13, u14, u15, u16, u17, u18, u19, u20, u21, u22, u23, u24, u25, u26, u27, u28, u29, u30, u31, u32, u33, u34, u35, u36, u37, u38, u39, u40, u41, u42, u43, u44, u45, u46, u47, u48, u49, u50, u51, u52, u53, u54, u55, u56, u57, u58, u59, u60, u61, u62, u63, u64, u65, u66, u67, u68, u69, u70, u71, u72, u73, u74, u75, u76, u77, u78, u79, u80, u81, u82, u83, u84, u85, u86, u87, u88, u89, u90, u91, u92, u93, u94, u95, u96, u97, u98, u99, u100, u101, u102, u103, u104, u105, u106, u107, u108, u109, u110, u111, u112, u113, u114, u115, u116, u117, u118, u119, u120, u121, u122, u123, u124, u125, u126, u127, u128, u129, u130, u131, u132, u133, u134], []⟩ W := by
  have c12_0 := h12.get 0 _ rfl
  have c12_1 := h12.get 1 _ rfl
  have l12 := h12.lt
  have c10_0 := h10.get 0 _ rfl
  have c10_1 := h10.get 1 _ rfl
  have l10 := h10.lt
  have f10_0 := h10.fz 0 _ rfl
  have f10_1 := h10.fz 1 _ rfl
  conv => arg 2; whnf
  go_wp2_with fail
  exact hQ _ _ (by repeat (first | (with_reducible exact Caught.refl _ _) | with_reducible refine Caught.set ?_ _ _)) (Bx.mk2 (by go_simp) (by go_simp) (by go_simp) (by go_simp))

/-- Region 15 of law3.MemFaults. -/
noncomputable def faults_r15_code : Code := ((Try.f9.body).bind (Code.findR 15)).getD .skip
set_option maxRecDepth 100000 in
set_option maxHeartbeats 4000000 in
theorem faults_r15 {Q : Exit → Act → World → Prop} {u0 u1 u2 u4 u6 u7 u8 u9 u10 u11 u12 u13 u14 u15 u16 u17 u18 u19 u20 u21 u22 u23 u24 u25 u26 u27 u28 u29 u30 u31 u32 u33 u34 u35 u36 u37 u38 u39 u40 u41 u42 u43 u44 u45 u46 u47 u48 u49 u50 u51 u52 u53 u54 u55 u56 u57 u58 u59 u60 u61 u62 u63 u64 u65 u66 u67 u68 u69 u70 u71 u72 u73 u74 u75 u76 u77 u78 u79 u80 u81 u82 u83 u84 u85 u86 u87 u88 u89 u90 u91 u92 u93 u94 u95 u96 u97 u98 u99 u100 u101 u102 u103 u104 u105 u106 u107 u108 u109 u110 u111 u112 u113 u114 u115 u116 u117 u118 u119 u120 u121 u122 u123 u124 u125 u126 u127 u128 u129 u130 u131 u132 u133 u134 : Value} {W : World} {b3 b5 : Nat} {P : List Int} {B : List UInt8} {a2 s2 v2 K A E V : Int} {g2 : Bool} {lo3 : Nat} (h3 : SpBx lo3 W b3 P B) (h5 : Bx W b5 [.int .i64 a2, .int .i64 s2, .bool g2, .int .i64 v2]) (HX : CLoad P B a2 s2 g2 V K A E) (hQ : ∀ (z73 z74 z75 z76 z77 z78 z72 z79 z80 z81 : Value) (b15 : Nat) (W' : World), Gr W.heap.size W W' → W.heap.size ≤ b15 → Bx W' b15 [.int .i64 K, .int .i64 A] → Q .normal ⟨#[u0, u1, u2, .pointer (some ⟨b3, 0, none⟩), u4, .pointer (some ⟨b5, 0, none⟩), u6, u7, u8, u9, u10, u11, u12, u13, .int .i64 V, .pointer (some ⟨b15, 0, none⟩), .int .i64 E, u17, u18, u19, u20, u21, u22, u23, u24, u25, u26, u27, u28, u29, u30, u31, u32, u33, u34, u35, u36, u37, u38, u39, u40, u41, u42, u43, u44, u45, u46, u47, u48, u49, u50, u51, u52, u53, u54, u55, u56, u57, u58, u59, u60, u61, u62, u63, u64, u65, u66, u67, u68, u69, u70, u71, z72, z73, z74, z75, z76, z77, z78, z79, z80, z81, u82, u83, u84, u85, u86, u87, u88, u89, u90, u91, u92, u93, u94, u95, u96, u97, u98, u99, u100, u101, u102, u103, u104, u105, u106, u107, u108, u109, u110, u111, u112, u113, u114, u115, u116, u117, u118, u119, u120, u121, u122, u123, u124, u125, u126, u127, u128, u129, u130, u131, u132, u133, u134], []⟩ W') : Code.wp Try.prog faults_r15_code Q ⟨#[u0, u1, u2, .pointer (some ⟨b3, 0, none⟩), u4, .pointer (some ⟨b5, 0, none⟩), u6, u7, u8, u9, u10, u11, u12, u13, u14, u15, u16, u17, u18, u19, u20, u21, u22, u23, u24, u25, u26, u27, u28, u29, u30, u31, u32, u33, u34, u35, u36, u37, u38, u39, u40, u41, u42, u43, u44, u45, u46, u47, u48, u49, u50, u51, u52, u53, u54, u55, u56, u57, u58, u59, u60, u61, u62, u63, u64, u65, u66, u67, u68, u69, u70, u71, u72, u73, u74, u75, u76, u77, u78, u79, u80, u81, u82, u83, u84, u85, u86, u87, u88, u89, u90, u91, u92, u93, u94, u95, u96, u97, u98, u99, u100, u101, u102, u103, u104, u105, u106, u107, u108, u109, u110, u111, u112, u113, u114, u115, u116, u117, u118, u119, u120, u121, u122, u123, u124, u125, u126, u127, u128, u129, u130, u131, u132, u133, u134], []⟩ W := by
  obtain ⟨p3, pc3, q3, qc3, x3, s3⟩ := h3
  have c3_0 := x3.get 0 _ rfl
  have c3_1 := x3.get 1 _ rfl
  have l3 := x3.lt
  have c5_0 := h5.get 0 _ rfl
  have c5_1 := h5.get 1 _ rfl
  have c5_2 := h5.get 2 _ rfl
  have c5_3 := h5.get 3 _ rfl
  have l5 := h5.lt
  conv => arg 2; whnf
  go_wp2_with first | (go_at_call 33; (refine (HX _ _ _ _ _ (s3.at.up (Gr.below (by repeat (first | (with_reducible exact Gr.refl _) | with_reducible refine Gr.alloc ?_ _ | with_reducible refine Gr.more ?_ _ _ | with_reducible refine Gr.setCell ?_ (by dsimp only; (try simp only [World.size_more, World.size_alloc, World.size_setCell, World.size_drew, Array.size_append]); omega) _ | with_reducible refine Gr.drew ?_))))).mono ?_); rintro e w1 ⟨rfl, hb⟩; obtain ⟨os, n, rfl⟩ := Below.moreE hb; clear hb)
  exact hQ _ _ _ _ _ _ _ _ _ _ _ _ (by repeat (first | (with_reducible exact Gr.refl _) | with_reducible refine Gr.alloc ?_ _ | with_reducible refine Gr.more ?_ _ _ | with_reducible refine Gr.setCell ?_ (by dsimp only; (try simp only [World.size_more, World.size_alloc, World.size_setCell, World.size_drew, Array.size_append]); omega) _ | with_reducible refine Gr.drew ?_)) ((by (try simp only [World.size_more, World.size_alloc, World.size_setCell, World.size_drew, Array.size_append]); omega)) (Bx.mk2 (by go_simp) (by go_simp) (by go_simp) (by go_simp))

/-- Region 16 of law3.MemFaults. -/
noncomputable def faults_r16_code : Code := ((Try.f9.body).bind (Code.findR 16)).getD .skip
set_option maxRecDepth 100000 in
set_option maxHeartbeats 4000000 in
theorem faults_r16 {Q : Exit → Act → World → Prop} {u0 u1 u2 u4 u6 u7 u8 u9 u10 u11 u12 u13 u14 u15 u16 u17 u18 u19 u20 u21 u22 u23 u24 u25 u26 u27 u28 u29 u30 u31 u32 u33 u34 u35 u36 u37 u38 u39 u40 u41 u42 u43 u44 u45 u46 u47 u48 u49 u50 u51 u52 u53 u54 u55 u56 u57 u58 u59 u60 u61 u62 u63 u64 u65 u66 u67 u68 u69 u70 u71 u72 u73 u74 u75 u76 u77 u78 u79 u80 u81 u82 u83 u84 u85 u86 u87 u88 u89 u90 u91 u92 u93 u94 u95 u96 u97 u98 u99 u100 u101 u102 u103 u104 u105 u106 u107 u108 u109 u110 u111 u112 u113 u114 u115 u116 u117 u118 u119 u120 u121 u122 u123 u124 u125 u126 u127 u128 u129 u130 u131 u132 u133 u134 : Value} {W : World} {b3 b5 : Nat} {P P' : List Int} {B B' : List UInt8} {a2 s2 v2 K A E : Int} {g2 : Bool} {lo3 : Nat} (h3 : SpBx lo3 W b3 P B) (h5 : Bx W b5 [.int .i64 a2, .int .i64 s2, .bool g2, .int .i64 v2]) (HX : CStore P B a2 s2 g2 v2 P' B' K A E) (hQ : ∀ (z83 z84 z85 z86 z87 z88 z89 z90 z82 z91 z92 z93 : Value) (b17 b18 : Nat) (W' : World), Gr W.heap.size W W' → W.heap.size ≤ b17 → SpBx W.heap.size W' b17 P' B' → W.heap.size ≤ b18 → Bx W' b18 [.int .i64 K, .int .i64 A] → Q .normal ⟨#[u0, u1, u2, .pointer (some ⟨b3, 0, none⟩), u4, .pointer (some ⟨b5, 0, none⟩), u6, u7, u8, u9, u10, u11, u12, u13, u14, u15, u16, .pointer (some ⟨b17, 0, none⟩), .pointer (some ⟨b18, 0, none⟩), .int .i64 E, u20, u21, u22, u23, u24, u25, u26, u27, u28, u29, u30, u31, u32, u33, u34, u35, u36, u37, u38, u39, u40, u41, u42, u43, u44, u45, u46, u47, u48, u49, u50, u51, u52, u53, u54, u55, u56, u57, u58, u59, u60, u61, u62, u63, u64, u65, u66, u67, u68, u69, u70, u71, u72, u73, u74, u75, u76, u77, u78, u79, u80, u81, z82, z83, z84, z85, z86, z87, z88, z89, z90, z91, z92, z93, u94, u95, u96, u97, u98, u99, u100, u101, u102, u103, u104, u105, u106, u107, u108, u109, u110, u111, u112, u113, u114, u115, u116, u117, u118, u119, u120, u121, u122, u123, u124, u125, u126, u127, u128, u129, u130, u131, u132, u133, u134], []⟩ W') : Code.wp Try.prog faults_r16_code Q ⟨#[u0, u1, u2, .pointer (some ⟨b3, 0, none⟩), u4, .pointer (some ⟨b5, 0, none⟩), u6, u7, u8, u9, u10, u11, u12, u13, u14, u15, u16, u17, u18, u19, u20, u21, u22, u23, u24, u25, u26, u27, u28, u29, u30, u31, u32, u33, u34, u35, u36, u37, u38, u39, u40, u41, u42, u43, u44, u45, u46, u47, u48, u49, u50, u51, u52, u53, u54, u55, u56, u57, u58, u59, u60, u61, u62, u63, u64, u65, u66, u67, u68, u69, u70, u71, u72, u73, u74, u75, u76, u77, u78, u79, u80, u81, u82, u83, u84, u85, u86, u87, u88, u89, u90, u91, u92, u93, u94, u95, u96, u97, u98, u99, u100, u101, u102, u103, u104, u105, u106, u107, u108, u109, u110, u111, u112, u113, u114, u115, u116, u117, u118, u119, u120, u121, u122, u123, u124, u125, u126, u127, u128, u129, u130, u131, u132, u133, u134], []⟩ W := by
  obtain ⟨p3, pc3, q3, qc3, x3, s3⟩ := h3
  have c3_0 := x3.get 0 _ rfl
  have c3_1 := x3.get 1 _ rfl
  have l3 := x3.lt
  have c5_0 := h5.get 0 _ rfl
  have c5_1 := h5.get 1 _ rfl
  have c5_2 := h5.get 2 _ rfl
  have c5_3 := h5.get 3 _ rfl
  have l5 := h5.lt
  conv => arg 2; whnf
  go_wp2_with first | (go_at_call 34; (refine (HX _ _ _ _ _ (s3.at.up (Gr.below (by repeat (first | (with_reducible exact Gr.refl _) | with_reducible refine Gr.alloc ?_ _ | with_reducible refine Gr.more ?_ _ _ | with_reducible refine Gr.setCell ?_ (by dsimp only; (try simp only [World.size_more, World.size_alloc, World.size_setCell, World.size_drew, Array.size_append]); omega) _ | with_reducible refine Gr.drew ?_))))).mono ?_); rintro e w1 ⟨_, rfl, ⟨pr, pcr, qr, qcr, rfl, hvr⟩, hb⟩; obtain ⟨os, n, rfl⟩ := Below.moreE hb; clear hb)
  exact hQ _ _ _ _ _ _ _ _ _ _ _ _ _ _ _ (by repeat (first | (with_reducible exact Gr.refl _) | with_reducible refine Gr.alloc ?_ _ | with_reducible refine Gr.more ?_ _ _ | with_reducible refine Gr.setCell ?_ (by dsimp only; (try simp only [World.size_more, World.size_alloc, World.size_setCell, World.size_drew, Array.size_append]); omega) _ | with_reducible refine Gr.drew ?_)) ((by (try simp only [World.size_more, World.size_alloc, World.size_setCell, World.size_drew, Array.size_append]); omega)) (⟨pr, pcr, qr, qcr, Bx.mk2 (by go_simp) (by go_simp) (by go_simp) (by go_simp), (hvr.up (by repeat (first | (with_reducible exact Gr.refl _) | with_reducible refine Gr.alloc ?_ _ | with_reducible refine Gr.more ?_ _ _ | with_reducible refine Gr.setCell ?_ (by dsimp only; (try simp only [World.size_more, World.size_alloc, World.size_setCell, World.size_drew, Array.size_append]); omega) _ | with_reducible refine Gr.drew ?_))).mono (by (try simp only [World.size_more, World.size_alloc, World.size_setCell, World.size_drew, Array.size_append]); omega) (by (try simp only [World.size_more, World.size_alloc, World.size_setCell, World.size_drew, Array.size_append]); omega)⟩) ((by (try simp only [World.size_more, World.size_alloc, World.size_setCell, World.size_drew, Array.size_append]); omega)) (Bx.mk2 (by go_simp) (by go_simp) (by go_simp) (by go_simp))

/-- Region 19 of law3.MemFaults. -/
noncomputable def faults_r19_code : Code := ((Try.f9.body).bind (Code.findR 19)).getD .skip
set_option maxRecDepth 100000 in
set_option maxHeartbeats 4000000 in
theorem faults_r19 {Q : Exit → Act → World → Prop} {u0 u1 u2 u4 u6 u7 u8 u9 u10 u11 u12 u13 u14 u15 u16 u17 u18 u19 u20 u21 u22 u23 u24 u25 u26 u27 u28 u29 u30 u31 u32 u33 u34 u35 u36 u37 u38 u39 u40 u41 u42 u43 u44 u45 u46 u47 u48 u49 u50 u51 u52 u53 u54 u55 u56 u57 u58 u59 u60 u61 u62 u63 u64 u65 u66 u67 u68 u69 u70 u71 u72 u73 u74 u75 u76 u77 u78 u79 u80 u81 u82 u83 u84 u85 u86 u87 u88 u89 u90 u91 u92 u93 u94 u95 u96 u97 u98 u99 u100 u101 u102 u103 u104 u105 u106 u107 u108 u109 u110 u111 u112 u113 u114 u115 u116 u117 u118 u119 u120 u121 u122 u123 u124 u125 u126 u127 u128 u129 u130 u131 u132 u133 u134 : Value} {W : World} {b3 b5 : Nat} {P : List Int} {B : List UInt8} {a2 s2 v2 K A E : Int} {g2 : Bool} {lo3 : Nat} (h3 : SpBx lo3 W b3 P B) (h5 : Bx W b5 [.int .i64 a2, .int .i64 s2, .bool g2, .int .i64 v2]) (HX : CAcc P B a2 s2 1 K A E) (hQ : ∀ (z108 z109 z110 z111 z112 z113 z114 z107 z115 z116 : Value) (b20 : Nat) (W' : World), Gr W.heap.size W W' → W.heap.size ≤ b20 → Bx W' b20 [.int .i64 K, .int .i64 A] → Q .normal ⟨#[u0, u1, u2, .pointer (some ⟨b3, 0, none⟩), u4, .pointer (some ⟨b5, 0, none⟩), u6, u7, u8, u9, u10, u11, u12, u13, u14, u15, u16, u17, u18, u19, .pointer (some ⟨b20, 0, none⟩), .int .i64 E, u22, u23, u24, u25, u26, u27, u28, u29, u30, u31, u32, u33, u34, u35, u36, u37, u38, u39, u40, u41, u42, u43, u44, u45, u46, u47, u48, u49, u50, u51, u52, u53, u54, u55, u56, u57, u58, u59, u60, u61, u62, u63, u64, u65, u66, u67, u68, u69, u70, u71, u72, u73, u74, u75, u76, u77, u78, u79, u80, u81, u82, u83, u84, u85, u86, u87, u88, u89, u90, u91, u92, u93, u94, u95, u96, u97, u98, u99, u100, u101, u102, u103, u104, u105, u106, z107, z108, z109, z110, z111, z112, z113, z114, z115, z116, u117, u118, u119, u120, u121, u122, u123, u124, u125, u126, u127, u128, u129, u130, u131, u132, u133, u134], []⟩ W') : Code.wp Try.prog faults_r19_code Q ⟨#[u0, u1, u2, .pointer (some ⟨b3, 0, none⟩), u4, .pointer (some ⟨b5, 0, none⟩), u6, u7, u8, u9, u10, u11, u12, u13, u14, u15, u16, u17, u18, u19, u20, u21, u22, u23, u24, u25, u26, u27, u28, u29, u30, u31, u32, u33, u34, u35, u36, u37, u38, u39, u40, u41, u42, u43, u44, u45, u46, u47, u48, u49, u50, u51, u52, u53, u54, u55, u56, u57, u58, u59, u60, u61, u62, u63, u64, u65, u66, u67, u68, u69, u70, u71, u72, u73, u74, u75, u76, u77, u78, u79, u80, u81, u82, u83, u84, u85, u86, u87, u88, u89, u90, u91, u92, u93, u94, u95, u96, u97, u98, u99, u100, u101, u102, u103, u104, u105, u106, u107, u108, u109, u110, u111, u112, u113, u114, u115, u116, u117, u118, u119, u120, u121, u122, u123, u124, u125, u126, u127, u128, u129, u130, u131, u132, u133, u134], []⟩ W := by
  obtain ⟨p3, pc3, q3, qc3, x3, s3⟩ := h3
  have c3_0 := x3.get 0 _ rfl
  have c3_1 := x3.get 1 _ rfl
  have l3 := x3.lt
  have c5_0 := h5.get 0 _ rfl
  have c5_1 := h5.get 1 _ rfl
  have c5_2 := h5.get 2 _ rfl
  have c5_3 := h5.get 3 _ rfl
  have l5 := h5.lt
  conv => arg 2; whnf
  go_wp2_with first | (go_at_call 25; (refine (HX _ _ _ _ _ (s3.at.up (Gr.below (by repeat (first | (with_reducible exact Gr.refl _) | with_reducible refine Gr.alloc ?_ _ | with_reducible refine Gr.more ?_ _ _ | with_reducible refine Gr.setCell ?_ (by dsimp only; (try simp only [World.size_more, World.size_alloc, World.size_setCell, World.size_drew, Array.size_append]); omega) _ | with_reducible refine Gr.drew ?_))))).mono ?_); rintro e w1 ⟨rfl, hb⟩; obtain ⟨os, n, rfl⟩ := Below.moreE hb; clear hb)
  exact hQ _ _ _ _ _ _ _ _ _ _ _ _ (by repeat (first | (with_reducible exact Gr.refl _) | with_reducible refine Gr.alloc ?_ _ | with_reducible refine Gr.more ?_ _ _ | with_reducible refine Gr.setCell ?_ (by dsimp only; (try simp only [World.size_more, World.size_alloc, World.size_setCell, World.size_drew, Array.size_append]); omega) _ | with_reducible refine Gr.drew ?_)) ((by (try simp only [World.size_more, World.size_alloc, World.size_setCell, World.size_drew, Array.size_append]); omega)) (Bx.mk2 (by go_simp) (by go_simp) (by go_simp) (by go_simp))

/-- Region 20 of law3.MemFaults. -/
noncomputable def faults_r20_code : Code := ((Try.f9.body).bind (Code.findR 20)).getD .skip
set_option maxRecDepth 100000 in
set_option maxHeartbeats 4000000 in
theorem faults_r20 {Q : Exit → Act → World → Prop} {u0 u1 u2 u4 u6 u7 u8 u9 u10 u11 u12 u13 u14 u15 u16 u17 u18 u19 u20 u21 u22 u23 u24 u25 u26 u27 u28 u29 u30 u31 u32 u33 u34 u35 u36 u37 u38 u39 u40 u41 u42 u43 u44 u45 u46 u47 u48 u49 u50 u51 u52 u53 u54 u55 u56 u57 u58 u59 u60 u61 u62 u63 u64 u65 u66 u67 u68 u69 u70 u71 u72 u73 u74 u75 u76 u77 u78 u79 u80 u81 u82 u83 u84 u85 u86 u87 u88 u89 u90 u91 u92 u93 u94 u95 u96 u97 u98 u99 u100 u101 u102 u103 u104 u105 u106 u107 u108 u109 u110 u111 u112 u113 u114 u115 u116 u117 u118 u119 u120 u121 u122 u123 u124 u125 u126 u127 u128 u129 u130 u131 u132 u133 u134 : Value} {W : World} {b3 b5 : Nat} {P : List Int} {B : List UInt8} {a2 s2 v2 K A E : Int} {g2 : Bool} {lo3 : Nat} (h3 : SpBx lo3 W b3 P B) (h5 : Bx W b5 [.int .i64 a2, .int .i64 s2, .bool g2, .int .i64 v2]) (HX : CAcc P B a2 s2 2 K A E) (hQ : ∀ (z118 z119 z120 z121 z122 z123 z124 z117 z125 z126 : Value) (b22 : Nat) (W' : World), Gr W.heap.size W W' → W.heap.size ≤ b22 → Bx W' b22 [.int .i64 K, .int .i64 A] → Q .normal ⟨#[u0, u1, u2, .pointer (some ⟨b3, 0, none⟩), u4, .pointer (some ⟨b5, 0, none⟩), u6, u7, u8, u9, u10, u11, u12, u13, u14, u15, u16, u17, u18, u19, u20, u21, .pointer (some ⟨b22, 0, none⟩), .int .i64 E, u24, u25, u26, u27, u28, u29, u30, u31, u32, u33, u34, u35, u36, u37, u38, u39, u40, u41, u42, u43, u44, u45, u46, u47, u48, u49, u50, u51, u52, u53, u54, u55, u56, u57, u58, u59, u60, u61, u62, u63, u64, u65, u66, u67, u68, u69, u70, u71, u72, u73, u74, u75, u76, u77, u78, u79, u80, u81, u82, u83, u84, u85, u86, u87, u88, u89, u90, u91, u92, u93, u94, u95, u96, u97, u98, u99, u100, u101, u102, u103, u104, u105, u106, u107, u108, u109, u110, u111, u112, u113, u114, u115, u116, z117, z118, z119, z120, z121, z122, z123, z124, z125, z126, u127, u128, u129, u130, u131, u132, u133, u134], []⟩ W') : Code.wp Try.prog faults_r20_code Q ⟨#[u0, u1, u2, .pointer (some ⟨b3, 0, none⟩), u4, .pointer (some ⟨b5, 0, none⟩), u6, u7, u8, u9, u10, u11, u12, u13, u14, u15, u16, u17, u18, u19, u20, u21, u22, u23, u24, u25, u26, u27, u28, u29, u30, u31, u32, u33, u34, u35, u36, u37, u38, u39, u40, u41, u42, u43, u44, u45, u46, u47, u48, u49, u50, u51, u52, u53, u54, u55, u56, u57, u58, u59, u60, u61, u62, u63, u64, u65, u66, u67, u68, u69, u70, u71, u72, u73, u74, u75, u76, u77, u78, u79, u80, u81, u82, u83, u84, u85, u86, u87, u88, u89, u90, u91, u92, u93, u94, u95, u96, u97, u98, u99, u100, u101, u102, u103, u104, u105, u106, u107, u108, u109, u110, u111, u112, u113, u114, u115, u116, u117, u118, u119, u120, u121, u122, u123, u124, u125, u126, u127, u128, u129, u130, u131, u132, u133, u134], []⟩ W := by
  obtain ⟨p3, pc3, q3, qc3, x3, s3⟩ := h3
  have c3_0 := x3.get 0 _ rfl
  have c3_1 := x3.get 1 _ rfl
  have l3 := x3.lt
  have c5_0 := h5.get 0 _ rfl
  have c5_1 := h5.get 1 _ rfl
  have c5_2 := h5.get 2 _ rfl
  have c5_3 := h5.get 3 _ rfl
  have l5 := h5.lt
  conv => arg 2; whnf
  go_wp2_with first | (go_at_call 25; (refine (HX _ _ _ _ _ (s3.at.up (Gr.below (by repeat (first | (with_reducible exact Gr.refl _) | with_reducible refine Gr.alloc ?_ _ | with_reducible refine Gr.more ?_ _ _ | with_reducible refine Gr.setCell ?_ (by dsimp only; (try simp only [World.size_more, World.size_alloc, World.size_setCell, World.size_drew, Array.size_append]); omega) _ | with_reducible refine Gr.drew ?_))))).mono ?_); rintro e w1 ⟨rfl, hb⟩; obtain ⟨os, n, rfl⟩ := Below.moreE hb; clear hb)
  exact hQ _ _ _ _ _ _ _ _ _ _ _ _ (by repeat (first | (with_reducible exact Gr.refl _) | with_reducible refine Gr.alloc ?_ _ | with_reducible refine Gr.more ?_ _ _ | with_reducible refine Gr.setCell ?_ (by dsimp only; (try simp only [World.size_more, World.size_alloc, World.size_setCell, World.size_drew, Array.size_append]); omega) _ | with_reducible refine Gr.drew ?_)) ((by (try simp only [World.size_more, World.size_alloc, World.size_setCell, World.size_drew, Array.size_append]); omega)) (Bx.mk2 (by go_simp) (by go_simp) (by go_simp) (by go_simp))

theorem flt_step {P : List Int} {perm at0 : Int} {k : Nat} (h : fltK P perm at0 k = 0) : fltK P perm at0 (k + 1) = kindA P perm (adr at0 k) ∧ fltA P perm at0 (k + 1) = if kindA P perm (adr at0 k) = 0 then 0 else adr at0 k := by
  have hg := good_zero h
  have hs : goodA P perm at0 (k + 1) = if kindA P perm (adr at0 k) = 0 then k + 1 else k := by
    unfold goodA at hg ⊢
    rw [cnt, hg]
    by_cases c : kindA P perm (adr at0 k) = 0 <;> simp [okA, c]
  unfold fltK fltA
  rw [hs]
  by_cases c : kindA P perm (adr at0 k) = 0 <;> simp [c]
theorem flt_stop {P : List Int} {perm at0 : Int} {k n : Nat} (hk : k ≤ n) (h : fltK P perm at0 k ≠ 0) : fltK P perm at0 n = fltK P perm at0 k ∧ fltA P perm at0 n = fltA P perm at0 k := by
  have h1 : goodA P perm at0 k < k := by
    have := cnt_le (okA P perm at0) k
    have h2 : goodA P perm at0 k ≠ k := fun e => h (fltK_zero.2 e)
    unfold goodA at h2 ⊢
    omega
  have hs : goodA P perm at0 n = goodA P perm at0 k := by
    unfold goodA at h1 ⊢
    exact cnt_eq (by omega) (cnt_ok _ k) (fun _ => cnt_stop _ k h1)
  unfold fltK fltA
  rw [hs, if_neg (by omega), if_neg (by omega), if_neg (by omega), if_neg (by omega)]
  exact ⟨rfl, rfl⟩
theorem valid_nat {s : Int} (h : validB s = true) : s = (s.toNat : Int) ∧ s.toNat ≤ 2048 := by rcases valid_cases h with rfl | rfl | rfl | rfl <;> decide
theorem cLoad_any {P : List Int} {B : List UInt8} (hs : spB P B.length = true) (at0 : Int) {s : Int} (hv : validB s = true) (g : Bool) : ∃ V, CLoad P B at0 s g V (fltK P 1 at0 s.toNat) (fltA P 1 at0 s.toNat) 0 := by
  by_cases hf : fltK P 1 at0 s.toNat = 0
  · refine ⟨fbV s g (rdL B at0 s.toNat), ?_⟩
    rw [hf, fltA_zero hf]
    exact cLoad_ok hs at0 hv g hf
  · exact ⟨0, cLoad_flt hs at0 hv g hf⟩
theorem cStore_any {P : List Int} {B : List UInt8} (hs : spB P B.length = true) (at0 : Int) {s : Int} (hv : validB s = true) (g : Bool) (x : Int) : ∃ P' B', CStore P B at0 s g x P' B' (fltK P 2 at0 s.toNat) (fltA P 2 at0 s.toNat) 0 := by
  by_cases hf : fltK P 2 at0 s.toNat = 0
  · refine ⟨P, wrL B at0 (btL x s.toNat) s.toNat, ?_⟩
    rw [hf, fltA_zero hf]
    exact cStore_ok hs at0 hv g x hf
  · exact ⟨[], [], cStore_flt hs at0 hv g x hf⟩
theorem flt_at (P : List Int) (perm at0 : Int) (k : Nat) : fltK P perm (adr at0 k) 1 = kindA P perm (adr at0 k) ∧ fltA P perm (adr at0 k) 1 = if kindA P perm (adr at0 k) = 0 then 0 else adr at0 k := by
  rw [fltK_one, fltA_one, adr_adr0]
  exact ⟨rfl, rfl⟩

set_option maxRecDepth 100000 in
set_option maxHeartbeats 16000000 in
theorem faults_early (P : List Int) (p : Option Addr) (pc : Nat) (B : List UInt8) (q : Option Addr) (qc : Nat) (a n m a2 s2 : Int) (g2 : Bool) (v2 : Int) (K A E : Int) (hE : (E != 0) = true) (w : World) (hS : SpIn 0 w.heap.size w P p B q qc) (hA : CAcc P B a n m K A E) : Calls Try.prog 9 #[spV p P.length pc q B.length qc, .agg #[.int .i64 a, .int .i64 n, .int .i64 m], .agg #[.int .i64 a2, .int .i64 s2, .bool g2, .int .i64 v2]] w fun e w' => e = .returned (.bool true) ∧ Below w.heap.size w w' := by
  go_enter Try.func9, Try.ntmps9
  go_upto_region 1 with fail
  refine faults_r1 msane_any ?_
  intro _ W1 g1
  have h3 : SpBx 0 W1 (w.heap.size) P B := SpBx.up g1 ⟨p, pc, q, qc, Bx.mk2 (by go_simp) (by go_simp) (by go_simp) (by go_simp), (hS.up (by repeat (first | (with_reducible exact Gr.refl _) | with_reducible refine Gr.alloc ?_ _ | with_reducible refine Gr.more ?_ _ _ | with_reducible refine Gr.setCell ?_ (by dsimp only; (try simp only [World.size_more, World.size_alloc, World.size_setCell, World.size_drew, Array.size_append]); omega) _ | with_reducible refine Gr.drew ?_))).mono (by (try simp only [World.size_more, World.size_alloc, World.size_setCell, World.size_drew, Array.size_append]); omega) (by (try simp only [World.size_more, World.size_alloc, World.size_setCell, World.size_drew, Array.size_append]); omega)⟩
  have h4 : Bx W1 (w.heap.size + 1) [.int .i64 a, .int .i64 n, .int .i64 m] := Bx.up g1 (Bx.mk3 (by go_simp) (by go_simp) (by go_simp) (by go_simp) (by go_simp) (by go_simp))
  have h5 : Bx W1 (w.heap.size + 1 + 1) [.int .i64 a2, .int .i64 s2, .bool g2, .int .i64 v2] := Bx.up g1 (Bx.mk4 (by go_simp) (by go_simp) (by go_simp) (by go_simp) (by go_simp) (by go_simp) (by go_simp) (by go_simp))
  have hG : Gr w.heap.size w W1 := Gr.trans (by repeat (first | (with_reducible exact Gr.refl _) | with_reducible refine Gr.alloc ?_ _ | with_reducible refine Gr.more ?_ _ _ | with_reducible refine Gr.setCell ?_ (by dsimp only; (try simp only [World.size_more, World.size_alloc, World.size_setCell, World.size_drew, Array.size_append]); omega) _ | with_reducible refine Gr.drew ?_)) g1
  clear g1
  go_upto_region 2 with fail
  refine faults_r2 h3 h4 hA ?_
  intro _ _ _ _ _ _ _ _ _ _ _ b8 W2 g2 ge8 n8
  replace h3 := SpBx.up g2 h3
  replace h4 := Bx.up g2 h4
  replace h5 := Bx.up g2 h5
  have h8 := n8
  clear n8
  replace hG := Gr.trans hG g2
  clear g2
  go_wp2_with fail
  refine bodyPost_ret (v := .bool true) (by simp [results, Try.results9, go_sem]) rfl ⟨rfl, Gr.below (by repeat (first | (with_reducible exact hG) | with_reducible refine Gr.alloc ?_ _ | with_reducible refine Gr.more ?_ _ _ | with_reducible refine Gr.setCell ?_ (by dsimp only; (try simp only [World.size_more, World.size_alloc, World.size_setCell, World.size_drew, Array.size_append]); omega) _ | with_reducible refine Gr.drew ?_))⟩

set_option maxRecDepth 100000 in
set_option maxHeartbeats 16000000 in
theorem faults_main (P : List Int) (p : Option Addr) (pc : Nat) (B : List UInt8) (q : Option Addr) (qc : Nat) (a m a2 s2 : Int) (g2 : Bool) (v2 : Int) (N : Nat) (hN : N ≤ 2048) (hs : spB P B.length = true) (hm : m = 1 ∨ m = 2 ∨ m = 4) (w : World) (hS : SpIn 0 w.heap.size w P p B q qc) (hA : CAcc P B a N m (fltK P m a N) (fltA P m a N) 0) : Calls Try.prog 9 #[spV p P.length pc q B.length qc, .agg #[.int .i64 a, .int .i64 (N : Int), .int .i64 m], .agg #[.int .i64 a2, .int .i64 s2, .bool g2, .int .i64 v2]] w fun e w' => e = .returned (.bool true) ∧ Below w.heap.size w w' := by
  go_enter Try.func9, Try.ntmps9
  go_upto_region 1 with fail
  refine faults_r1 msane_any ?_
  intro _ W1 g1
  have h3 : SpBx 0 W1 (w.heap.size) P B := SpBx.up g1 ⟨p, pc, q, qc, Bx.mk2 (by go_simp) (by go_simp) (by go_simp) (by go_simp), (hS.up (by repeat (first | (with_reducible exact Gr.refl _) | with_reducible refine Gr.alloc ?_ _ | with_reducible refine Gr.more ?_ _ _ | with_reducible refine Gr.setCell ?_ (by dsimp only; (try simp only [World.size_more, World.size_alloc, World.size_setCell, World.size_drew, Array.size_append]); omega) _ | with_reducible refine Gr.drew ?_))).mono (by (try simp only [World.size_more, World.size_alloc, World.size_setCell, World.size_drew, Array.size_append]); omega) (by (try simp only [World.size_more, World.size_alloc, World.size_setCell, World.size_drew, Array.size_append]); omega)⟩
  have h4 : Bx W1 (w.heap.size + 1) [.int .i64 a, .int .i64 (N : Int), .int .i64 m] := Bx.up g1 (Bx.mk3 (by go_simp) (by go_simp) (by go_simp) (by go_simp) (by go_simp) (by go_simp))
  have h5 : Bx W1 (w.heap.size + 1 + 1) [.int .i64 a2, .int .i64 s2, .bool g2, .int .i64 v2] := Bx.up g1 (Bx.mk4 (by go_simp) (by go_simp) (by go_simp) (by go_simp) (by go_simp) (by go_simp) (by go_simp) (by go_simp))
  have hG : Gr w.heap.size w W1 := Gr.trans (by repeat (first | (with_reducible exact Gr.refl _) | with_reducible refine Gr.alloc ?_ _ | with_reducible refine Gr.more ?_ _ _ | with_reducible refine Gr.setCell ?_ (by dsimp only; (try simp only [World.size_more, World.size_alloc, World.size_setCell, World.size_drew, Array.size_append]); omega) _ | with_reducible refine Gr.drew ?_)) g1
  clear g1
  go_upto_region 2 with fail
  refine faults_r2 h3 h4 hA ?_
  intro _ _ _ _ _ _ _ _ _ _ _ b8 W2 g2 ge8 n8
  replace h3 := SpBx.up g2 h3
  replace h4 := Bx.up g2 h4
  replace h5 := Bx.up g2 h5
  have h8 := n8
  clear n8
  replace hG := Gr.trans hG g2
  clear g2
  have o5 := h5.lt
  have o8 := h8.lt
  go_upto_region 5 with fail
  refine faults_r5  ?_
  intro _ b10 W3 g3 ge10 n10
  replace h3 := SpBx.up g3 h3
  replace h4 := Bx.up g3 h4
  replace h5 := Bx.up g3 h5
  replace h8 := Bx.up g3 h8
  have h10 := n10
  clear n10
  replace hG := Gr.trans hG g3
  clear g3
  go_wp2_with fail
  go_loopw [11] (fun i wr => ∃ k : Nat, k ≤ N ∧ i = .int .i64 (k : Int) ∧ SpBx 0 wr (w.heap.size) P B ∧ Bx wr (w.heap.size + 1) [.int .i64 a, .int .i64 (N : Int), .int .i64 m] ∧ Bx wr (w.heap.size + 1 + 1) [.int .i64 a2, .int .i64 s2, .bool g2, .int .i64 v2] ∧ Bx wr b8 [.int .i64 (fltK P m a N), .int .i64 (fltA P m a N)] ∧ Bx wr b10 [.int .i64 (fltK P m a k), .int .i64 (fltA P m a k)] ∧ Gr w.heap.size w wr) (fun i _ => N - (intOf i).toNat)
  case atStart => exact ⟨0, Nat.zero_le _, rfl, h3, h4, h5, h8, h10, hG⟩
  case round =>
  clear h3 h4 h5 h8 h10 hG
  obtain ⟨k, hk, rfl, h3, h4, h5, h8, h10, hG⟩ := hrel
  have c4_1 := h4.get 1 _ rfl
  have c10_0 := h10.get 0 _ rfl
  by_cases hgo : k < N ∧ fltK P m a k = 0
  · obtain ⟨hkN, hf⟩ := hgo
    have hki : (k : Int) < (N : Int) := by omega
    have hf' : (fltK P m a k == 0) = true := beq_iff_eq.2 hf
    have hw1 : wrap64 ((k : Int) + 1) = (k : Int) + 1 := by unfold wrap64; omega
    have hst := flt_step hf
    have hat := flt_at P m a k
    have HX := cAcc_ok (B := B) hs (adr a k) (n := 1) (k := 1) rfl (by decide) hm
    rw [hat.1, hat.2, ← hst.2, ← hst.1] at HX
    go_upto_region 9 with fail
    refine faults_r9 h3 h4 rfl HX ?_
    intro _ _ _ _ _ _ _ _ _ _ _ b12 W11 g11 ge12 n12
    replace h3 := SpBx.up g11 h3
    replace h4 := Bx.up g11 h4
    replace h5 := Bx.up g11 h5
    replace h8 := Bx.up g11 h8
    replace h10 := Bx.up g11 h10
    have h12 := n12
    clear n12
    replace hG := Gr.trans hG g11
    clear g11
    clear c4_1 c10_0
    have c10_0 := h10.get 0 _ rfl
    have hge := h10.lt
    go_upto_region 12 with fail
    refine faults_r12 h12 h10 ?_
    intro _  W12 g12 n10
    replace h3 := h3.caught g12 (by omega) (by omega)
    replace h4 := h4.caught g12 (by omega)
    replace h5 := h5.caught g12 (by omega)
    replace h8 := h8.caught g12 (by omega)
    replace h10 := n10
    clear n10
    clear h12
    replace hG := Gr.caught hG g12 (by omega)
    clear g12
    go_wp2_with fail
    go_roundw
    case rel => exact ⟨k + 1, hkN, by go_num, h3, h4, h5, h8, h10, hG⟩
    case measure => simp [intOf]; omega
  · have hEnd : fltK P m a k = fltK P m a N ∧ fltA P m a k = fltA P m a N := by
      by_cases c : k = N
      · subst c; exact ⟨rfl, rfl⟩
      · have h := flt_stop hk (fun e => hgo ⟨by omega, e⟩)
        exact ⟨h.1.symm, h.2.symm⟩
    have c8_0 := h8.get 0 _ rfl
    have c8_1 := h8.get 1 _ rfl
    have c10_1 := h10.get 1 _ rfl
    have o10 := h10.lt
    have ob8 := h8.lt
    have hstop : ¬ (k : Int) < (N : Int) ∨ ((k : Int) < (N : Int) ∧ (fltK P m a N == 0) = false) := by
      by_cases c : k < N
      · refine .inr ⟨by omega, ?_⟩
        rw [← hEnd.1]
        exact beq_eq_false_iff_ne.2 (fun e => hgo ⟨c, e⟩)
      · exact .inl (by omega)
    rw [hEnd.1] at c10_0 h10
    rw [hEnd.2] at c10_1 h10
    clear hEnd hgo hk hm
    cases hv : validB s2
    · have HL := cLoad_type (B := B) hs a2 hv g2
      have HT := cStore_type (B := B) hs a2 hv g2 v2
      clear hv hs
      rcases hstop with hki | ⟨hki, hne⟩
      all_goals
        go_upto_region 15 with fail
        refine faults_r15 h3 h5 HL ?_
        intro _ _ _ _ _ _ _ _ _ _ b15 W21 g21 ge15 n15
        replace h3 := SpBx.up g21 h3
        replace h4 := Bx.up g21 h4
        replace h5 := Bx.up g21 h5
        replace h8 := Bx.up g21 h8
        replace h10 := Bx.up g21 h10
        have h15 := n15
        clear n15
        replace hG := Gr.trans hG g21
        clear g21
        go_upto_region 16 with fail
        refine faults_r16 h3 h5 HT ?_
        intro _ _ _ _ _ _ _ _ _ _ _ _ b17 b18 W22 g22 ge17 n17 ge18 n18
        replace h3 := SpBx.up g22 h3
        replace h4 := Bx.up g22 h4
        replace h5 := Bx.up g22 h5
        replace h8 := Bx.up g22 h8
        replace h10 := Bx.up g22 h10
        replace h15 := Bx.up g22 h15
        have h17 := n17
        clear n17
        have h18 := n18
        clear n18
        replace hG := Gr.trans hG g22
        clear g22
        go_wp2_with fail
        refine bodyPost_ret (v := .bool true) (by simp [results, Try.results9, go_sem]) rfl ⟨rfl, Gr.below (by repeat (first | (with_reducible exact hG) | with_reducible refine Gr.alloc ?_ _ | with_reducible refine Gr.more ?_ _ _ | with_reducible refine Gr.setCell ?_ (by dsimp only; (try simp only [World.size_more, World.size_alloc, World.size_setCell, World.size_drew, Array.size_append]); omega) _ | with_reducible refine Gr.drew ?_))⟩
    · obtain ⟨V, HL⟩ := cLoad_any (B := B) hs a2 hv g2
      obtain ⟨P', B', HT⟩ := cStore_any (B := B) hs a2 hv g2 v2
      have hb := valid_nat hv
      have H1 := cAcc_ok (B := B) hs a2 hb.1 hb.2 (m := 1) (.inl rfl)
      have H2 := cAcc_ok (B := B) hs a2 hb.1 hb.2 (m := 2) (.inr (.inl rfl))
      generalize fltK P 1 a2 s2.toNat = K1 at *
      generalize fltA P 1 a2 s2.toNat = A1 at *
      generalize fltK P 2 a2 s2.toNat = K2 at *
      generalize fltA P 2 a2 s2.toNat = A2 at *
      clear hv hs hb
      rcases hstop with hki | ⟨hki, hne⟩
      all_goals
        go_upto_region 15 with fail
        refine faults_r15 h3 h5 HL ?_
        intro _ _ _ _ _ _ _ _ _ _ b15 W21 g21 ge15 n15
        replace h3 := SpBx.up g21 h3
        replace h4 := Bx.up g21 h4
        replace h5 := Bx.up g21 h5
        replace h8 := Bx.up g21 h8
        replace h10 := Bx.up g21 h10
        have h15 := n15
        clear n15
        replace hG := Gr.trans hG g21
        clear g21
        go_upto_region 16 with fail
        refine faults_r16 h3 h5 HT ?_
        intro _ _ _ _ _ _ _ _ _ _ _ _ b17 b18 W22 g22 ge17 n17 ge18 n18
        replace h3 := SpBx.up g22 h3
        replace h4 := Bx.up g22 h4
        replace h5 := Bx.up g22 h5
        replace h8 := Bx.up g22 h8
        replace h10 := Bx.up g22 h10
        replace h15 := Bx.up g22 h15
        have h17 := n17
        clear n17
        have h18 := n18
        clear n18
        replace hG := Gr.trans hG g22
        clear g22
        go_upto_region 19 with fail
        refine faults_r19 h3 h5 H1 ?_
        intro _ _ _ _ _ _ _ _ _ _ b20 W23 g23 ge20 n20
        replace h3 := SpBx.up g23 h3
        replace h4 := Bx.up g23 h4
        replace h5 := Bx.up g23 h5
        replace h8 := Bx.up g23 h8
        replace h10 := Bx.up g23 h10
        replace h15 := Bx.up g23 h15
        replace h17 := SpBx.up g23 h17
        replace h18 := Bx.up g23 h18
        have h20 := n20
        clear n20
        replace hG := Gr.trans hG g23
        clear g23
        go_upto_region 20 with fail
        refine faults_r20 h3 h5 H2 ?_
        intro _ _ _ _ _ _ _ _ _ _ b22 W24 g24 ge22 n22
        replace h3 := SpBx.up g24 h3
        replace h4 := Bx.up g24 h4
        replace h5 := Bx.up g24 h5
        replace h8 := Bx.up g24 h8
        replace h10 := Bx.up g24 h10
        replace h15 := Bx.up g24 h15
        replace h17 := SpBx.up g24 h17
        replace h18 := Bx.up g24 h18
        replace h20 := Bx.up g24 h20
        have h22 := n22
        clear n22
        replace hG := Gr.trans hG g24
        clear g24
        have e15_0 := h15.get 0 _ rfl
        have e15_1 := h15.get 1 _ rfl
        have e18_0 := h18.get 0 _ rfl
        have e18_1 := h18.get 1 _ rfl
        have e20_0 := h20.get 0 _ rfl
        have e20_1 := h20.get 1 _ rfl
        have e22_0 := h22.get 0 _ rfl
        have e22_1 := h22.get 1 _ rfl
        go_wp2_with fail
        refine bodyPost_ret (v := .bool true) (by simp [results, Try.results9, go_sem]) rfl ⟨rfl, Gr.below (by repeat (first | (with_reducible exact hG) | with_reducible refine Gr.alloc ?_ _ | with_reducible refine Gr.more ?_ _ _ | with_reducible refine Gr.setCell ?_ (by dsimp only; (try simp only [World.size_more, World.size_alloc, World.size_setCell, World.size_drew, Array.size_append]); omega) _ | with_reducible refine Gr.drew ?_))⟩

theorem law_faults (w : World) (P : List Int) (p : Option Addr) (pc : Nat) (B : List UInt8) (q : Option Addr) (qc : Nat) (hS : SpIn 0 w.heap.size w P p B q qc) (a n m : Int) (_ : I64 a) (_ : I64 n) (_ : I64 m) (a2 s2 : Int) (g2 : Bool) (v2 : Int) (_ : I64 a2) (_ : I64 s2) (_ : I64 v2) : Calls Try.prog 9 #[spV p P.length pc q B.length qc, .agg #[.int .i64 a, .int .i64 n, .int .i64 m], .agg #[.int .i64 a2, .int .i64 s2, .bool g2, .int .i64 v2]] w fun e w' => e = .returned (.bool true) ∧ Below w.heap.size w w' := by
  cases hs : spB P B.length
  · exact faults_early P p pc B q qc a n m a2 s2 g2 v2 0 0 30 rfl w hS (cAcc_bad hs a n m)
  · by_cases hn : n < 0 ∨ 2048 < n ∨ (m ≠ 1 ∧ m ≠ 2 ∧ m ≠ 4)
    · exact faults_early P p pc B q qc a n m a2 s2 g2 v2 0 0 1 rfl w hS (cAcc_arg hs a n m hn)
    · obtain ⟨N, rfl⟩ := nat_of (n := n) (by omega)
      have hm : m = 1 ∨ m = 2 ∨ m = 4 := by omega
      exact faults_main P p pc B q qc a m a2 s2 g2 v2 N (by omega) hs hm w hS (cAcc_ok hs a rfl (by omega) hm)
end Go.Proofs.Ytnapbpfofpaakaa

namespace Go.Proofs.Ytnapbpfofpaakaa
open Go.RowKit

def apB (a s b t : Int) : Bool := decide (0 ≤ a) && (decide (0 ≤ b) && (decide (a < 1099511627776) && (decide (b < 1099511627776) && (decide (wrap64 (a + s) ≤ b) || decide (wrap64 (b + t) ≤ a)))))
set_option maxHeartbeats 4000000 in
theorem apart_any (a s : Int) (g : Bool) (x b t : Int) (h : Bool) (y : Int) (w : World) : Calls Try.prog 44 #[.agg #[.int .i64 a, .int .i64 s, .bool g, .int .i64 x], .agg #[.int .i64 b, .int .i64 t, .bool h, .int .i64 y]] w fun e w' => e = .returned (.bool (apB a s b t)) ∧ Below w.heap.size w w' := by
  by_cases h1 : 0 ≤ a
  · by_cases h2 : 0 ≤ b
    · by_cases h3 : a < 1099511627776
      · by_cases h4 : b < 1099511627776
        · by_cases h5 : wrap64 (a + s) ≤ b
          · rw [show apB a s b t = true by unfold apB; simp only [h1, h2, h3, h4, h5, decide_true, decide_false, Bool.true_and, Bool.false_and, Bool.or_true, Bool.true_or, Bool.or_false]]
            go_enter Try.func44, Try.ntmps44
            go_wp2
            go_ret
            exact ⟨rfl, (Gr.below (by repeat (first | (with_reducible exact Gr.refl _) | with_reducible refine Gr.alloc ?_ _ | with_reducible refine Gr.more ?_ _ _ | with_reducible refine Gr.setCell ?_ (by dsimp only; omega) _ | with_reducible refine Gr.drew ?_)))⟩
          · by_cases h6 : wrap64 (b + t) ≤ a
            · rw [show apB a s b t = true by unfold apB; simp only [h1, h2, h3, h4, h5, h6, decide_true, decide_false, Bool.true_and, Bool.false_and, Bool.or_true, Bool.true_or, Bool.or_false]]
              go_enter Try.func44, Try.ntmps44
              go_wp2
              go_ret
              exact ⟨rfl, (Gr.below (by repeat (first | (with_reducible exact Gr.refl _) | with_reducible refine Gr.alloc ?_ _ | with_reducible refine Gr.more ?_ _ _ | with_reducible refine Gr.setCell ?_ (by dsimp only; omega) _ | with_reducible refine Gr.drew ?_)))⟩
            · rw [show apB a s b t = false by unfold apB; simp only [h1, h2, h3, h4, h5, h6, decide_true, decide_false, Bool.true_and, Bool.false_and, Bool.or_true, Bool.true_or, Bool.or_false]]
              go_enter Try.func44, Try.ntmps44
              go_wp2
              go_ret
              exact ⟨rfl, (Gr.below (by repeat (first | (with_reducible exact Gr.refl _) | with_reducible refine Gr.alloc ?_ _ | with_reducible refine Gr.more ?_ _ _ | with_reducible refine Gr.setCell ?_ (by dsimp only; omega) _ | with_reducible refine Gr.drew ?_)))⟩
        · rw [show apB a s b t = false by unfold apB; simp only [h1, h2, h3, h4, decide_true, decide_false, Bool.true_and, Bool.false_and, Bool.or_true, Bool.true_or, Bool.or_false]]
          go_enter Try.func44, Try.ntmps44
          go_wp2
          go_ret
          exact ⟨rfl, (Gr.below (by repeat (first | (with_reducible exact Gr.refl _) | with_reducible refine Gr.alloc ?_ _ | with_reducible refine Gr.more ?_ _ _ | with_reducible refine Gr.setCell ?_ (by dsimp only; omega) _ | with_reducible refine Gr.drew ?_)))⟩
      · rw [show apB a s b t = false by unfold apB; simp only [h1, h2, h3, decide_true, decide_false, Bool.true_and, Bool.false_and, Bool.or_true, Bool.true_or, Bool.or_false]]
        go_enter Try.func44, Try.ntmps44
        go_wp2
        go_ret
        exact ⟨rfl, (Gr.below (by repeat (first | (with_reducible exact Gr.refl _) | with_reducible refine Gr.alloc ?_ _ | with_reducible refine Gr.more ?_ _ _ | with_reducible refine Gr.setCell ?_ (by dsimp only; omega) _ | with_reducible refine Gr.drew ?_)))⟩
    · rw [show apB a s b t = false by unfold apB; simp only [h1, h2, decide_true, decide_false, Bool.true_and, Bool.false_and, Bool.or_true, Bool.true_or, Bool.or_false]]
      go_enter Try.func44, Try.ntmps44
      go_wp2
      go_ret
      exact ⟨rfl, (Gr.below (by repeat (first | (with_reducible exact Gr.refl _) | with_reducible refine Gr.alloc ?_ _ | with_reducible refine Gr.more ?_ _ _ | with_reducible refine Gr.setCell ?_ (by dsimp only; omega) _ | with_reducible refine Gr.drew ?_)))⟩
  · rw [show apB a s b t = false by unfold apB; simp only [h1, decide_true, decide_false, Bool.true_and, Bool.false_and, Bool.or_true, Bool.true_or, Bool.or_false]]
    go_enter Try.func44, Try.ntmps44
    go_wp2
    go_ret
    exact ⟨rfl, (Gr.below (by repeat (first | (with_reducible exact Gr.refl _) | with_reducible refine Gr.alloc ?_ _ | with_reducible refine Gr.more ?_ _ _ | with_reducible refine Gr.setCell ?_ (by dsimp only; omega) _ | with_reducible refine Gr.drew ?_)))⟩

/-- Region 1 of law3.MemApart. -/
noncomputable def apart_r1_code : Code := ((Try.f8.body).bind (Code.findR 1)).getD .skip
set_option maxRecDepth 100000 in
set_option maxHeartbeats 4000000 in
theorem apart_r1 {Q : Exit → Act → World → Prop} {u0 u1 u2 u3 u4 u5 u6 u7 u8 u9 u10 u11 u12 u13 u14 u15 u16 u17 u18 u19 u20 u21 u22 u23 u24 u25 u26 u27 u28 u29 u30 u31 u32 u33 u34 u35 u36 u37 u38 u39 u40 u41 u42 u43 u44 u45 u46 u47 u48 u49 u50 u51 u52 u53 u54 u55 u56 u57 u58 u59 u60 u61 u62 u63 u64 u65 u66 u67 u68 u69 u70 u71 u72 u73 u74 u75 u76 u77 u78 u79 u80 u81 u82 u83 u84 u85 u86 u87 u88 u89 u90 u91 u92 u93 u94 u95 u96 u97 u98 u99 u100 u101 u102 u103 u104 u105 u106 u107 u108 u109 u110 u111 u112 u113 u114 u115 u116 u117 u118 u119 u120 u121 u122 u123 u124 u125 u126 u127 u128 u129 : Value} {W : World}      (HX : ∀ w, Calls Try.prog 14 #[] w fun e w' => e = .returned (.bool true) ∧ Below w.heap.size w w') (hQ : ∀ (z20 : Value) (W' : World), Gr W.heap.size W W' → Q .normal ⟨#[u0, u1, u2, u3, u4, u5, u6, .bool true, u8, u9, u10, u11, u12, u13, u14, u15, u16, u17, u18, u19, z20, u21, u22, u23, u24, u25, u26, u27, u28, u29, u30, u31, u32, u33, u34, u35, u36, u37, u38, u39, u40, u41, u42, u43, u44, u45, u46, u47, u48, u49, u50, u51, u52, u53, u54, u55, u56, u57, u58, u59, u60, u61, u62, u63, u64, u65, u66, u67, u68, u69, u70, u71, u72, u73, u74, u75, u76, u77, u78, u79, u80, u81, u82, u83, u84, u85, u86, u87, u88, u89, u90, u91, u92, u93, u94, u95, u96, u97, u98, u99, u100, u101, u102, u103, u104, u105, u106, u107, u108, u109, u110, u111, u112, u113, u114, u115, u116, u117, u118, u119, u120, u121, u122, u123, u124, u125, u126, u127, u128, u129], []⟩ W') : Code.wp Try.prog apart_r1_code Q ⟨#[u0, u1, u2, u3, u4, u5, u6, u7, u8, u9, u10, u11, u12, u13, u14, u15, u16, u17, u18, u19, u20, u21, u22, u23, u24, u25, u26, u27, u28, u29, u30, u31, u32, u33, u34, u35, u36, u37, u38, u39, u40, u41, u42, u43, u44, u45, u46, u47, u48, u49, u50, u51, u52, u53, u54, u55, u56, u57, u58, u59, u60, u61, u62, u63, u64, u65, u66, u67, u68, u69, u70, u71, u72, u73, u74, u75, u76, u77, u78, u79, u80, u81, u82, u83, u84, u85, u86, u87, u88, u89, u90, u91, u92, u93, u94, u95, u96, u97, u98, u99, u100, u101, u102, u103, u104, u105, u106, u107, u108, u109, u110, u111, u112, u113, u114, u115, u116, u117, u118, u119, u120, u121, u122, u123, u124, u125, u126, u127, u128, u129], []⟩ W := by
  conv => arg 2; whnf
  go_wp2_with first | (go_at_call 14; (refine (HX _).mono ?_); rintro e w1 ⟨rfl, hb⟩; obtain ⟨os, n, rfl⟩ := Below.moreE hb; clear hb)
  first | exact (by repeat (first | (with_reducible exact Gr.refl _) | with_reducible refine Gr.alloc ?_ _ | with_reducible refine Gr.more ?_ _ _ | with_reducible refine Gr.setCell ?_ (by dsimp only; (try simp only [World.size_more, World.size_alloc, World.size_setCell, World.size_drew, Array.size_append]); omega) _ | with_reducible refine Gr.drew ?_)) | exact hQ _ _ (by repeat (first | (with_reducible exact Gr.refl _) | with_reducible refine Gr.alloc ?_ _ | with_reducible refine Gr.more ?_ _ _ | with_reducible refine Gr.setCell ?_ (by dsimp only; (try simp only [World.size_more, World.size_alloc, World.size_setCell, World.size_drew, Array.size_append]); omega) _ | with_reducible refine Gr.drew ?_)) 

/-- Region 2 of law3.MemApart. -/
noncomputable def apart_r2_code : Code := ((Try.f8.body).bind (Code.findR 2)).getD .skip
set_option maxRecDepth 100000 in
set_option maxHeartbeats 4000000 in
theorem apart_r2 {Q : Exit → Act → World → Prop} {u0 u1 u2 u6 u8 u9 u10 u11 u12 u13 u14 u15 u16 u17 u18 u19 u20 u21 u22 u23 u24 u25 u26 u27 u28 u29 u30 u31 u32 u33 u34 u35 u36 u37 u38 u39 u40 u41 u42 u43 u44 u45 u46 u47 u48 u49 u50 u51 u52 u53 u54 u55 u56 u57 u58 u59 u60 u61 u62 u63 u64 u65 u66 u67 u68 u69 u70 u71 u72 u73 u74 u75 u76 u77 u78 u79 u80 u81 u82 u83 u84 u85 u86 u87 u88 u89 u90 u91 u92 u93 u94 u95 u96 u97 u98 u99 u100 u101 u102 u103 u104 u105 u106 u107 u108 u109 u110 u111 u112 u113 u114 u115 u116 u117 u118 u119 u120 u121 u122 u123 u124 u125 u126 u127 u128 u129 : Value} {W : World} {b3 b4 b5 : Nat} {P : List Int} {B : List UInt8} {a s v b t y : Int} {g h : Bool} {lo3 : Nat} (h3 : SpBx lo3 W b3 P B) (h4 : Bx W b4 [.int .i64 a, .int .i64 s, .bool g, .int .i64 v]) (h5 : Bx W b5 [.int .i64 b, .int .i64 t, .bool h, .int .i64 y]) (HC : CCheck P B 0) (HR : ∀ w, Calls Try.prog 45 #[tyV s g] w fun e w' => e = .returned (.int .i64 0) ∧ Below w.heap.size w w') (HR2 : ∀ w, Calls Try.prog 45 #[tyV t h] w fun e w' => e = .returned (.int .i64 0) ∧ Below w.heap.size w w') (HA : ∀ w, Calls Try.prog 44 #[.agg #[.int .i64 a, .int .i64 s, .bool g, .int .i64 v], .agg #[.int .i64 b, .int .i64 t, .bool h, .int .i64 y]] w fun e w' => e = .returned (.bool true) ∧ Below w.heap.size w w') (hQ : ∀ (z21 z22 z23 z24 z25 z26 z27 z28 z29 z30 z31 z32 z33 z34 z35 z36 z37 z38 z39 z40 z41 z42 z43 z44 : Value) (W' : World), Gr W.heap.size W W' → Q .normal ⟨#[u0, u1, u2, .pointer (some ⟨b3, 0, none⟩), .pointer (some ⟨b4, 0, none⟩), .pointer (some ⟨b5, 0, none⟩), u6, .bool true, u8, u9, u10, u11, u12, u13, u14, u15, u16, u17, u18, u19, u20, z21, z22, z23, z24, z25, z26, z27, z28, z29, z30, z31, z32, z33, z34, z35, z36, z37, z38, z39, z40, z41, z42, z43, z44, .bool false, u46, u47, u48, u49, u50, u51, u52, u53, u54, u55, u56, u57, u58, u59, u60, u61, u62, u63, u64, u65, u66, u67, u68, u69, u70, u71, u72, u73, u74, u75, u76, u77, u78, u79, u80, u81, u82, u83, u84, u85, u86, u87, u88, u89, u90, u91, u92, u93, u94, u95, u96, u97, u98, u99, u100, u101, u102, u103, u104, u105, u106, u107, u108, u109, u110, u111, u112, u113, u114, u115, u116, u117, u118, u119, u120, u121, u122, u123, u124, u125, u126, u127, u128, u129], []⟩ W') : Code.wp Try.prog apart_r2_code Q ⟨#[u0, u1, u2, .pointer (some ⟨b3, 0, none⟩), .pointer (some ⟨b4, 0, none⟩), .pointer (some ⟨b5, 0, none⟩), u6, .bool true, u8, u9, u10, u11, u12, u13, u14, u15, u16, u17, u18, u19, u20, u21, u22, u23, u24, u25, u26, u27, u28, u29, u30, u31, u32, u33, u34, u35, u36, u37, u38, u39, u40, u41, u42, u43, u44, u45, u46, u47, u48, u49, u50, u51, u52, u53, u54, u55, u56, u57, u58, u59, u60, u61, u62, u63, u64, u65, u66, u67, u68, u69, u70, u71, u72, u73, u74, u75, u76, u77, u78, u79, u80, u81, u82, u83, u84, u85, u86, u87, u88, u89, u90, u91, u92, u93, u94, u95, u96, u97, u98, u99, u100, u101, u102, u103, u104, u105, u106, u107, u108, u109, u110, u111, u112, u113, u114, u115, u116, u117, u118, u119, u120, u121, u122, u123, u124, u125, u126, u127, u128, u129], []⟩ W := by
  obtain ⟨p3, pc3, q3, qc3, x3, s3⟩ := h3
  have c3_0 := x3.get 0 _ rfl
  have c3_1 := x3.get 1 _ rfl
  have l3 := x3.lt
  have c4_0 := h4.get 0 _ rfl
  have c4_1 := h4.get 1 _ rfl
  have c4_2 := h4.get 2 _ rfl
  have c4_3 := h4.get 3 _ rfl
  have l4 := h4.lt
  have c5_0 := h5.get 0 _ rfl
  have c5_1 := h5.get 1 _ rfl
  have c5_2 := h5.get 2 _ rfl
  have c5_3 := h5.get 3 _ rfl
  have l5 := h5.lt
  conv => arg 2; whnf
  go_wp2_with first | (go_at_call 21; (refine (HC _ _ _ _ _ (s3.at.up (Gr.below (by repeat (first | (with_reducible exact Gr.refl _) | with_reducible refine Gr.alloc ?_ _ | with_reducible refine Gr.more ?_ _ _ | with_reducible refine Gr.setCell ?_ (by dsimp only; (try simp only [World.size_more, World.size_alloc, World.size_setCell, World.size_drew, Array.size_append]); omega) _ | with_reducible refine Gr.drew ?_))))).mono ?_); rintro e w1 ⟨rfl, hb⟩; obtain ⟨os, n, rfl⟩ := Below.moreE hb; clear hb) | (go_at_call 45; (first | (with_reducible refine (HR _).mono ?_) | (with_reducible refine (HR2 _).mono ?_)); rintro e w1 ⟨rfl, hb⟩; obtain ⟨os, n, rfl⟩ := Below.moreE hb; clear hb) | (go_at_call 44; (refine (HA _).mono ?_); rintro e w1 ⟨rfl, hb⟩; obtain ⟨os, n, rfl⟩ := Below.moreE hb; clear hb)
  first | exact (by repeat (first | (with_reducible exact Gr.refl _) | with_reducible refine Gr.alloc ?_ _ | with_reducible refine Gr.more ?_ _ _ | with_reducible refine Gr.setCell ?_ (by dsimp only; (try simp only [World.size_more, World.size_alloc, World.size_setCell, World.size_drew, Array.size_append]); omega) _ | with_reducible refine Gr.drew ?_)) | exact hQ _ _ _ _ _ _ _ _ _ _ _ _ _ _ _ _ _ _ _ _ _ _ _ _ _ (by repeat (first | (with_reducible exact Gr.refl _) | with_reducible refine Gr.alloc ?_ _ | with_reducible refine Gr.more ?_ _ _ | with_reducible refine Gr.setCell ?_ (by dsimp only; (try simp only [World.size_more, World.size_alloc, World.size_setCell, World.size_drew, Array.size_append]); omega) _ | with_reducible refine Gr.drew ?_)) 

/-- Region 4 of law3.MemApart. -/
noncomputable def apart_r4_code : Code := ((Try.f8.body).bind (Code.findR 4)).getD .skip
set_option maxRecDepth 100000 in
set_option maxHeartbeats 4000000 in
theorem apart_r4 {Q : Exit → Act → World → Prop} {u0 u1 u2 u5 u6 u7 u8 u9 u10 u11 u12 u13 u14 u15 u16 u17 u18 u19 u20 u21 u22 u23 u24 u25 u26 u27 u28 u29 u30 u31 u32 u33 u34 u35 u36 u37 u38 u39 u40 u41 u42 u43 u44 u45 u46 u47 u48 u49 u50 u51 u52 u53 u54 u55 u56 u57 u58 u59 u60 u61 u62 u63 u64 u65 u66 u67 u68 u69 u70 u71 u72 u73 u74 u75 u76 u77 u78 u79 u80 u81 u82 u83 u84 u85 u86 u87 u88 u89 u90 u91 u92 u93 u94 u95 u96 u97 u98 u99 u100 u101 u102 u103 u104 u105 u106 u107 u108 u109 u110 u111 u112 u113 u114 u115 u116 u117 u118 u119 u120 u121 u122 u123 u124 u125 u126 u127 u128 u129 : Value} {W : World} {b3 b4 : Nat} {P P' : List Int} {B B' : List UInt8} {a s v K A E : Int} {g : Bool} {lo3 : Nat} (h3 : SpBx lo3 W b3 P B) (h4 : Bx W b4 [.int .i64 a, .int .i64 s, .bool g, .int .i64 v]) (HX : CStore P B a s g v P' B' K A E) (hQ : ∀ (z48 z49 z50 z51 z52 z53 z54 z55 z47 z56 z57 z58 : Value) (b8 b9 : Nat) (W' : World), Gr W.heap.size W W' → W.heap.size ≤ b8 → SpBx W.heap.size W' b8 P' B' → W.heap.size ≤ b9 → b8 < b9 → Bx W' b9 [.int .i64 K, .int .i64 A] → Q .normal ⟨#[u0, u1, u2, .pointer (some ⟨b3, 0, none⟩), .pointer (some ⟨b4, 0, none⟩), u5, u6, u7, .pointer (some ⟨b8, 0, none⟩), .pointer (some ⟨b9, 0, none⟩), .int .i64 E, u11, u12, u13, u14, u15, u16, u17, u18, u19, u20, u21, u22, u23, u24, u25, u26, u27, u28, u29, u30, u31, u32, u33, u34, u35, u36, u37, u38, u39, u40, u41, u42, u43, u44, u45, u46, z47, z48, z49, z50, z51, z52, z53, z54, z55, z56, z57, z58, u59, u60, u61, u62, u63, u64, u65, u66, u67, u68, u69, u70, u71, u72, u73, u74, u75, u76, u77, u78, u79, u80, u81, u82, u83, u84, u85, u86, u87, u88, u89, u90, u91, u92, u93, u94, u95, u96, u97, u98, u99, u100, u101, u102, u103, u104, u105, u106, u107, u108, u109, u110, u111, u112, u113, u114, u115, u116, u117, u118, u119, u120, u121, u122, u123, u124, u125, u126, u127, u128, u129], []⟩ W') : Code.wp Try.prog apart_r4_code Q ⟨#[u0, u1, u2, .pointer (some ⟨b3, 0, none⟩), .pointer (some ⟨b4, 0, none⟩), u5, u6, u7, u8, u9, u10, u11, u12, u13, u14, u15, u16, u17, u18, u19, u20, u21, u22, u23, u24, u25, u26, u27, u28, u29, u30, u31, u32, u33, u34, u35, u36, u37, u38, u39, u40, u41, u42, u43, u44, u45, u46, u47, u48, u49, u50, u51, u52, u53, u54, u55, u56, u57, u58, u59, u60, u61, u62, u63, u64, u65, u66, u67, u68, u69, u70, u71, u72, u73, u74, u75, u76, u77, u78, u79, u80, u81, u82, u83, u84, u85, u86, u87, u88, u89, u90, u91, u92, u93, u94, u95, u96, u97, u98, u99, u100, u101, u102, u103, u104, u105, u106, u107, u108, u109, u110, u111, u112, u113, u114, u115, u116, u117, u118, u119, u120, u121, u122, u123, u124, u125, u126, u127, u128, u129], []⟩ W := by
  obtain ⟨p3, pc3, q3, qc3, x3, s3⟩ := h3
  have c3_0 := x3.get 0 _ rfl
  have c3_1 := x3.get 1 _ rfl
  have l3 := x3.lt
  have c4_0 := h4.get 0 _ rfl
  have c4_1 := h4.get 1 _ rfl
  have c4_2 := h4.get 2 _ rfl
  have c4_3 := h4.get 3 _ rfl
  have l4 := h4.lt
  conv => arg 2; whnf
  go_wp2_with first | (go_at_call 34; (refine (HX _ _ _ _ _ (s3.at.up (Gr.below (by repeat (first | (with_reducible exact Gr.refl _) | with_reducible refine Gr.alloc ?_ _ | with_reducible refine Gr.more ?_ _ _ | with_reducible refine Gr.setCell ?_ (by dsimp only; (try simp only [World.size_more, World.size_alloc, World.size_setCell, World.size_drew, Array.size_append]); omega) _ | with_reducible refine Gr.drew ?_))))).mono ?_); rintro e w1 ⟨_, rfl, ⟨pr, pcr, qr, qcr, rfl, hvr⟩, hb⟩; obtain ⟨os, n, rfl⟩ := Below.moreE hb; clear hb)
  exact hQ _ _ _ _ _ _ _ _ _ _ _ _ _ _ _ (by repeat (first | (with_reducible exact Gr.refl _) | with_reducible refine Gr.alloc ?_ _ | with_reducible refine Gr.more ?_ _ _ | with_reducible refine Gr.setCell ?_ (by dsimp only; (try simp only [World.size_more, World.size_alloc, World.size_setCell, World.size_drew, Array.size_append]); omega) _ | with_reducible refine Gr.drew ?_)) ((by (try simp only [World.size_more, World.size_alloc, World.size_setCell, World.size_drew, Array.size_append]); omega)) (⟨pr, pcr, qr, qcr, Bx.mk2 (by go_simp) (by go_simp) (by go_simp) (by go_simp), (hvr.up (by repeat (first | (with_reducible exact Gr.refl _) | with_reducible refine Gr.alloc ?_ _ | with_reducible refine Gr.more ?_ _ _ | with_reducible refine Gr.setCell ?_ (by dsimp only; (try simp only [World.size_more, World.size_alloc, World.size_setCell, World.size_drew, Array.size_append]); omega) _ | with_reducible refine Gr.drew ?_))).mono (by (try simp only [World.size_more, World.size_alloc, World.size_setCell, World.size_drew, Array.size_append]); omega) (by (try simp only [World.size_more, World.size_alloc, World.size_setCell, World.size_drew, Array.size_append]); omega)⟩) ((by (try simp only [World.size_more, World.size_alloc, World.size_setCell, World.size_drew, Array.size_append]); omega)) ((by (try simp only [World.size_more, World.size_alloc, World.size_setCell, World.size_drew, Array.size_append]); omega)) (Bx.mk2 (by go_simp) (by go_simp) (by go_simp) (by go_simp))

/-- Region 5 of law3.MemApart. -/
noncomputable def apart_r5_code : Code := ((Try.f8.body).bind (Code.findR 5)).getD .skip
set_option maxRecDepth 100000 in
set_option maxHeartbeats 4000000 in
theorem apart_r5 {Q : Exit → Act → World → Prop} {u0 u1 u2 u4 u6 u7 u8 u9 u10 u11 u12 u13 u14 u15 u16 u17 u18 u19 u20 u21 u22 u23 u24 u25 u26 u27 u28 u29 u30 u31 u32 u33 u34 u35 u36 u37 u38 u39 u40 u41 u42 u43 u44 u45 u46 u47 u48 u49 u50 u51 u52 u53 u54 u55 u56 u57 u58 u59 u60 u61 u62 u63 u64 u65 u66 u67 u68 u69 u70 u71 u72 u73 u74 u75 u76 u77 u78 u79 u80 u81 u82 u83 u84 u85 u86 u87 u88 u89 u90 u91 u92 u93 u94 u95 u96 u97 u98 u99 u100 u101 u102 u103 u104 u105 u106 u107 u108 u109 u110 u111 u112 u113 u114 u115 u116 u117 u118 u119 u120 u121 u122 u123 u124 u125 u126 u127 u128 u129 : Value} {W : World} {b3 b5 : Nat} {P P' : List Int} {B B' : List UInt8} {b t y K A E : Int} {h : Bool} {lo3 : Nat} (h3 : SpBx lo3 W b3 P B) (h5 : Bx W b5 [.int .i64 b, .int .i64 t, .bool h, .int .i64 y]) (HX : CStore P B b t h y P' B' K A E) (hQ : ∀ (z60 z61 z62 z63 z64 z65 z66 z67 z59 z68 z69 z70 : Value) (b11 b12 : Nat) (W' : World), Gr W.heap.size W W' → W.heap.size ≤ b11 → SpBx W.heap.size W' b11 P' B' → W.heap.size ≤ b12 → b11 < b12 → Bx W' b12 [.int .i64 K, .int .i64 A] → Q .normal ⟨#[u0, u1, u2, .pointer (some ⟨b3, 0, none⟩), u4, .pointer (some ⟨b5, 0, none⟩), u6, u7, u8, u9, u10, .pointer (some ⟨b11, 0, none⟩), .pointer (some ⟨b12, 0, none⟩), .int .i64 E, u14, u15, u16, u17, u18, u19, u20, u21, u22, u23, u24, u25, u26, u27, u28, u29, u30, u31, u32, u33, u34, u35, u36, u37, u38, u39, u40, u41, u42, u43, u44, u45, u46, u47, u48, u49, u50, u51, u52, u53, u54, u55, u56, u57, u58, z59, z60, z61, z62, z63, z64, z65, z66, z67, z68, z69, z70, u71, u72, u73, u74, u75, u76, u77, u78, u79, u80, u81, u82, u83, u84, u85, u86, u87, u88, u89, u90, u91, u92, u93, u94, u95, u96, u97, u98, u99, u100, u101, u102, u103, u104, u105, u106, u107, u108, u109, u110, u111, u112, u113, u114, u115, u116, u117, u118, u119, u120, u121, u122, u123, u124, u125, u126, u127, u128, u129], []⟩ W') : Code.wp Try.prog apart_r5_code Q ⟨#[u0, u1, u2, .pointer (some ⟨b3, 0, none⟩), u4, .pointer (some ⟨b5, 0, none⟩), u6, u7, u8, u9, u10, u11, u12, u13, u14, u15, u16, u17, u18, u19, u20, u21, u22, u23, u24, u25, u26, u27, u28, u29, u30, u31, u32, u33, u34, u35, u36, u37, u38, u39, u40, u41, u42, u43, u44, u45, u46, u47, u48, u49, u50, u51, u52, u53, u54, u55, u56, u57, u58, u59, u60, u61, u62, u63, u64, u65, u66, u67, u68, u69, u70, u71, u72, u73, u74, u75, u76, u77, u78, u79, u80, u81, u82, u83, u84, u85, u86, u87, u88, u89, u90, u91, u92, u93, u94, u95, u96, u97, u98, u99, u100, u101, u102, u103, u104, u105, u106, u107, u108, u109, u110, u111, u112, u113, u114, u115, u116, u117, u118, u119, u120, u121, u122, u123, u124, u125, u126, u127, u128, u129], []⟩ W := by
  obtain ⟨p3, pc3, q3, qc3, x3, s3⟩ := h3
  have c3_0 := x3.get 0 _ rfl
  have c3_1 := x3.get 1 _ rfl
  have l3 := x3.lt
  have c5_0 := h5.get 0 _ rfl
  have c5_1 := h5.get 1 _ rfl
  have c5_2 := h5.get 2 _ rfl
  have c5_3 := h5.get 3 _ rfl
  have l5 := h5.lt
  conv => arg 2; whnf
  go_wp2_with first | (go_at_call 34; (refine (HX _ _ _ _ _ (s3.at.up (Gr.below (by repeat (first | (with_reducible exact Gr.refl _) | with_reducible refine Gr.alloc ?_ _ | with_reducible refine Gr.more ?_ _ _ | with_reducible refine Gr.setCell ?_ (by dsimp only; (try simp only [World.size_more, World.size_alloc, World.size_setCell, World.size_drew, Array.size_append]); omega) _ | with_reducible refine Gr.drew ?_))))).mono ?_); rintro e w1 ⟨_, rfl, ⟨pr, pcr, qr, qcr, rfl, hvr⟩, hb⟩; obtain ⟨os, n, rfl⟩ := Below.moreE hb; clear hb)
  exact hQ _ _ _ _ _ _ _ _ _ _ _ _ _ _ _ (by repeat (first | (with_reducible exact Gr.refl _) | with_reducible refine Gr.alloc ?_ _ | with_reducible refine Gr.more ?_ _ _ | with_reducible refine Gr.setCell ?_ (by dsimp only; (try simp only [World.size_more, World.size_alloc, World.size_setCell, World.size_drew, Array.size_append]); omega) _ | with_reducible refine Gr.drew ?_)) ((by (try simp only [World.size_more, World.size_alloc, World.size_setCell, World.size_drew, Array.size_append]); omega)) (⟨pr, pcr, qr, qcr, Bx.mk2 (by go_simp) (by go_simp) (by go_simp) (by go_simp), (hvr.up (by repeat (first | (with_reducible exact Gr.refl _) | with_reducible refine Gr.alloc ?_ _ | with_reducible refine Gr.more ?_ _ _ | with_reducible refine Gr.setCell ?_ (by dsimp only; (try simp only [World.size_more, World.size_alloc, World.size_setCell, World.size_drew, Array.size_append]); omega) _ | with_reducible refine Gr.drew ?_))).mono (by (try simp only [World.size_more, World.size_alloc, World.size_setCell, World.size_drew, Array.size_append]); omega) (by (try simp only [World.size_more, World.size_alloc, World.size_setCell, World.size_drew, Array.size_append]); omega)⟩) ((by (try simp only [World.size_more, World.size_alloc, World.size_setCell, World.size_drew, Array.size_append]); omega)) ((by (try simp only [World.size_more, World.size_alloc, World.size_setCell, World.size_drew, Array.size_append]); omega)) (Bx.mk2 (by go_simp) (by go_simp) (by go_simp) (by go_simp))

/-- Region 9 of law3.MemApart. -/
noncomputable def apart_r9_code : Code := ((Try.f8.body).bind (Code.findR 9)).getD .skip
set_option maxRecDepth 100000 in
set_option maxHeartbeats 4000000 in
theorem apart_r9 {Q : Exit → Act → World → Prop} {u0 u1 u2 u4 u5 u6 u7 u9 u10 u11 u12 u13 u14 u15 u16 u17 u18 u19 u20 u21 u22 u23 u24 u25 u26 u27 u28 u29 u30 u31 u32 u33 u34 u35 u36 u37 u38 u39 u40 u41 u42 u43 u44 u45 u46 u47 u48 u49 u50 u51 u52 u53 u54 u55 u56 u57 u58 u59 u60 u61 u62 u63 u64 u65 u66 u67 u68 u69 u70 u71 u72 u73 u74 u75 u76 u77 u78 u79 u80 u81 u82 u83 u84 u85 u86 u87 u88 u89 u90 u91 u92 u93 u94 u95 u96 u97 u98 u99 u100 u101 u102 u103 u104 u105 u106 u107 u108 u109 u110 u111 u112 u113 u114 u115 u116 u117 u118 u119 u120 u121 u122 u123 u124 u125 u126 u127 u128 u129 : Value} {W : World} {b3 b8 : Nat} {P P2 : List Int} {B C : List UInt8}   {lo3 : Nat} (h3 : SpBx lo3 W b3 P B) {lo8 : Nat} (h8 : SpBx lo8 W b8 P2 C) (hlt : b3 < b8) (hQ : ∀ (z80 : Value) (W' : World), Caught b8 W W' → SpBx 0 W' b8 P B → Q .normal ⟨#[u0, u1, u2, .pointer (some ⟨b3, 0, none⟩), u4, u5, u6, u7, .pointer (some ⟨b8, 0, none⟩), u9, u10, u11, u12, u13, u14, u15, u16, u17, u18, u19, u20, u21, u22, u23, u24, u25, u26, u27, u28, u29, u30, u31, u32, u33, u34, u35, u36, u37, u38, u39, u40, u41, u42, u43, u44, u45, u46, u47, u48, u49, u50, u51, u52, u53, u54, u55, u56, u57, u58, u59, u60, u61, u62, u63, u64, u65, u66, u67, u68, u69, u70, u71, u72, u73, u74, u75, u76, u77, u78, u79, z80, u81, u82, u83, u84, u85, u86, u87, u88, u89, u90, u91, u92, u93, u94, u95, u96, u97, u98, u99, u100, u101, u102, u103, u104, u105, u106, u107, u108, u109, u110, u111, u112, u113, u114, u115, u116, u117, u118, u119, u120, u121, u122, u123, u124, u125, u126, u127, u128, u129], []⟩ W') : Code.wp Try.prog apart_r9_code Q ⟨#[u0, u1, u2, .pointer (some ⟨b3, 0, none⟩), u4, u5, u6, u7, .pointer (some ⟨b8, 0, none⟩), u9, u10, u11, u12, u13, u14, u15, u16, u17, u18, u19, u20, u21, u22, u23, u24, u25, u26, u27, u28, u29, u30, u31, u32, u33, u34, u35, u36, u37, u38, u39, u40, u41, u42, u43, u44, u45, u46, u47, u48, u49, u50, u51, u52, u53, u54, u55, u56, u57, u58, u59, u60, u61, u62, u63, u64, u65, u66, u67, u68, u69, u70, u71, u72, u73, u74, u75, u76, u77, u78, u79, u80, u81, u82, u83, u84, u85, u86, u87, u88, u89, u90, u91, u92, u93, u94, u95, u96, u97, u98, u99, u100, u101, u102, u103, u104, u105, u106, u107, u108, u109, u110, u111, u112, u113, u114, u115, u116, u117, u118, u119, u120, u121, u122, u123, u124, u125, u126, u127, u128, u129], []⟩ W := by
  obtain ⟨p3, pc3, q3, qc3, x3, s3⟩ := h3
  have c3_0 := x3.get 0 _ rfl
  have c3_1 := x3.get 1 _ rfl
  have l3 := x3.lt
  obtain ⟨p8, pc8, q8, qc8, x8, s8⟩ := h8
  have c8_0 := x8.get 0 _ rfl
  have c8_1 := x8.get 1 _ rfl
  have l8 := x8.lt
  have f8_0 := x8.fz 0 _ rfl
  have f8_1 := x8.fz 1 _ rfl
  conv => arg 2; whnf
  go_wp2_with fail
  exact hQ _ _ (by repeat (first | (with_reducible exact Caught.refl _ _) | with_reducible refine Caught.set ?_ _ _)) (⟨p3, pc3, q3, qc3, Bx.mk2 (by go_simp) (by go_simp) (by go_simp) (by go_simp), ((s3.caught (m := b8) (by repeat (first | (with_reducible exact Caught.refl _ _) | with_reducible refine Caught.set ?_ _ _)) (.inr (by omega)))).mono (Nat.zero_le _) (by omega)⟩)

/-- Region 11 of law3.MemApart. -/
noncomputable def apart_r11_code : Code := ((Try.f8.body).bind (Code.findR 11)).getD .skip
set_option maxRecDepth 100000 in
set_option maxHeartbeats 4000000 in
theorem apart_r11 {Q : Exit → Act → World → Prop} {u0 u1 u2 u4 u5 u6 u7 u8 u9 u10 u12 u13 u14 u15 u16 u17 u18 u19 u20 u21 u22 u23 u24 u25 u26 u27 u28 u29 u30 u31 u32 u33 u34 u35 u36 u37 u38 u39 u40 u41 u42 u43 u44 u45 u46 u47 u48 u49 u50 u51 u52 u53 u54 u55 u56 u57 u58 u59 u60 u61 u62 u63 u64 u65 u66 u67 u68 u69 u70 u71 u72 u73 u74 u75 u76 u77 u78 u79 u80 u81 u82 u83 u84 u85 u86 u87 u88 u89 u90 u91 u92 u93 u94 u95 u96 u97 u98 u99 u100 u101 u102 u103 u104 u105 u106 u107 u108 u109 u110 u111 u112 u113 u114 u115 u116 u117 u118 u119 u120 u121 u122 u123 u124 u125 u126 u127 u128 u129 : Value} {W : World} {b3 b11 : Nat} {P P2 : List Int} {B C : List UInt8}   {lo3 : Nat} (h3 : SpBx lo3 W b3 P B) {lo11 : Nat} (h11 : SpBx lo11 W b11 P2 C) (hlt : b3 < b11) (hQ : ∀ (z84 : Value) (W' : World), Caught b11 W W' → SpBx 0 W' b11 P B → Q .normal ⟨#[u0, u1, u2, .pointer (some ⟨b3, 0, none⟩), u4, u5, u6, u7, u8, u9, u10, .pointer (some ⟨b11, 0, none⟩), u12, u13, u14, u15, u16, u17, u18, u19, u20, u21, u22, u23, u24, u25, u26, u27, u28, u29, u30, u31, u32, u33, u34, u35, u36, u37, u38, u39, u40, u41, u42, u43, u44, u45, u46, u47, u48, u49, u50, u51, u52, u53, u54, u55, u56, u57, u58, u59, u60, u61, u62, u63, u64, u65, u66, u67, u68, u69, u70, u71, u72, u73, u74, u75, u76, u77, u78, u79, u80, u81, u82, u83, z84, u85, u86, u87, u88, u89, u90, u91, u92, u93, u94, u95, u96, u97, u98, u99, u100, u101, u102, u103, u104, u105, u106, u107, u108, u109, u110, u111, u112, u113, u114, u115, u116, u117, u118, u119, u120, u121, u122, u123, u124, u125, u126, u127, u128, u129], []⟩ W') : Code.wp Try.prog apart_r11_code Q ⟨#[u0, u1, u2, .pointer (some ⟨b3, 0, none⟩), u4, u5, u6, u7, u8, u9, u10, .pointer (some ⟨b11, 0, none⟩), u12, u13, u14, u15, u16, u17, u18, u19, u20, u21, u22, u23, u24, u25, u26, u27, u28, u29, u30, u31, u32, u33, u34, u35, u36, u37, u38, u39, u40, u41, u42, u43, u44, u45, u46, u47, u48, u49, u50, u51, u52, u53, u54, u55, u56, u57, u58, u59, u60, u61, u62, u63, u64, u65, u66, u67, u68, u69, u70, u71, u72, u73, u74, u75, u76, u77, u78, u79, u80, u81, u82, u83, u84, u85, u86, u87, u88, u89, u90, u91, u92, u93, u94, u95, u96, u97, u98, u99, u100, u101, u102, u103, u104, u105, u106, u107, u108, u109, u110, u111, u112, u113, u114, u115, u116, u117, u118, u119, u120, u121, u122, u123, u124, u125, u126, u127, u128, u129], []⟩ W := by
  obtain ⟨p3, pc3, q3, qc3, x3, s3⟩ := h3
  have c3_0 := x3.get 0 _ rfl
  have c3_1 := x3.get 1 _ rfl
  have l3 := x3.lt
  obtain ⟨p11, pc11, q11, qc11, x11, s11⟩ := h11
  have c11_0 := x11.get 0 _ rfl
  have c11_1 := x11.get 1 _ rfl
  have l11 := x11.lt
  have f11_0 := x11.fz 0 _ rfl
  have f11_1 := x11.fz 1 _ rfl
  conv => arg 2; whnf
  go_wp2_with fail
  exact hQ _ _ (by repeat (first | (with_reducible exact Caught.refl _ _) | with_reducible refine Caught.set ?_ _ _)) (⟨p3, pc3, q3, qc3, Bx.mk2 (by go_simp) (by go_simp) (by go_simp) (by go_simp), ((s3.caught (m := b11) (by repeat (first | (with_reducible exact Caught.refl _ _) | with_reducible refine Caught.set ?_ _ _)) (.inr (by omega)))).mono (Nat.zero_le _) (by omega)⟩)

/-- Region 12 of law3.MemApart. -/
noncomputable def apart_r12_code : Code := ((Try.f8.body).bind (Code.findR 12)).getD .skip
set_option maxRecDepth 100000 in
set_option maxHeartbeats 4000000 in
theorem apart_r12 {Q : Exit → Act → World → Prop} {u0 u1 u2 u3 u4 u6 u7 u9 u10 u11 u12 u13 u14 u15 u16 u17 u18 u19 u20 u21 u22 u23 u24 u25 u26 u27 u28 u29 u30 u31 u32 u33 u34 u35 u36 u37 u38 u39 u40 u41 u42 u43 u44 u45 u46 u47 u48 u49 u50 u51 u52 u53 u54 u55 u56 u57 u58 u59 u60 u61 u62 u63 u64 u65 u66 u67 u68 u69 u70 u71 u72 u73 u74 u75 u76 u77 u78 u79 u80 u81 u82 u83 u84 u85 u86 u87 u88 u89 u90 u91 u92 u93 u94 u95 u96 u97 u98 u99 u100 u101 u102 u103 u104 u105 u106 u107 u108 u109 u110 u111 u112 u113 u114 u115 u116 u117 u118 u119 u120 u121 u122 u123 u124 u125 u126 u127 u128 u129 : Value} {W : World} {b8 b5 : Nat} {P P' : List Int} {B B' : List UInt8} {b t y K A E : Int} {h : Bool} {lo8 : Nat} (h8 : SpBx lo8 W b8 P B) (h5 : Bx W b5 [.int .i64 b, .int .i64 t, .bool h, .int .i64 y]) (HX : CStore P B b t h y P' B' K A E) (hQ : ∀ (z86 z87 z88 z89 z90 z91 z92 z93 z85 z94 z95 z96 : Value) (b14 b15 : Nat) (W' : World), Gr W.heap.size W W' → W.heap.size ≤ b14 → SpBx W.heap.size W' b14 P' B' → W.heap.size ≤ b15 → b14 < b15 → Bx W' b15 [.int .i64 K, .int .i64 A] → Q .normal ⟨#[u0, u1, u2, u3, u4, .pointer (some ⟨b5, 0, none⟩), u6, u7, .pointer (some ⟨b8, 0, none⟩), u9, u10, u11, u12, u13, .pointer (some ⟨b14, 0, none⟩), .pointer (some ⟨b15, 0, none⟩), .int .i64 E, u17, u18, u19, u20, u21, u22, u23, u24, u25, u26, u27, u28, u29, u30, u31, u32, u33, u34, u35, u36, u37, u38, u39, u40, u41, u42, u43, u44, u45, u46, u47, u48, u49, u50, u51, u52, u53, u54, u55, u56, u57, u58, u59, u60, u61, u62, u63, u64, u65, u66, u67, u68, u69, u70, u71, u72, u73, u74, u75, u76, u77, u78, u79, u80, u81, u82, u83, u84, z85, z86, z87, z88, z89, z90, z91, z92, z93, z94, z95, z96, u97, u98, u99, u100, u101, u102, u103, u104, u105, u106, u107, u108, u109, u110, u111, u112, u113, u114, u115, u116, u117, u118, u119, u120, u121, u122, u123, u124, u125, u126, u127, u128, u129], []⟩ W') : Code.wp Try.prog apart_r12_code Q ⟨#[u0, u1, u2, u3, u4, .pointer (some ⟨b5, 0, none⟩), u6, u7, .pointer (some ⟨b8, 0, none⟩), u9, u10, u11, u12, u13, u14, u15, u16, u17, u18, u19, u20, u21, u22, u23, u24, u25, u26, u27, u28, u29, u30, u31, u32, u33, u34, u35, u36, u37, u38, u39, u40, u41, u42, u43, u44, u45, u46, u47, u48, u49, u50, u51, u52, u53, u54, u55, u56, u57, u58, u59, u60, u61, u62, u63, u64, u65, u66, u67, u68, u69, u70, u71, u72, u73, u74, u75, u76, u77, u78, u79, u80, u81, u82, u83, u84, u85, u86, u87, u88, u89, u90, u91, u92, u93, u94, u95, u96, u97, u98, u99, u100, u101, u102, u103, u104, u105, u106, u107, u108, u109, u110, u111, u112, u113, u114, u115, u116, u117, u118, u119, u120, u121, u122, u123, u124, u125, u126, u127, u128, u129], []⟩ W := by
  obtain ⟨p8, pc8, q8, qc8, x8, s8⟩ := h8
  have c8_0 := x8.get 0 _ rfl
  have c8_1 := x8.get 1 _ rfl
  have l8 := x8.lt
  have c5_0 := h5.get 0 _ rfl
  have c5_1 := h5.get 1 _ rfl
  have c5_2 := h5.get 2 _ rfl
  have c5_3 := h5.get 3 _ rfl
  have l5 := h5.lt
  conv => arg 2; whnf
  go_wp2_with first | (go_at_call 34; (refine (HX _ _ _ _ _ (s8.at.up (Gr.below (by repeat (first | (with_reducible exact Gr.refl _) | with_reducible refine Gr.alloc ?_ _ | with_reducible refine Gr.more ?_ _ _ | with_reducible refine Gr.setCell ?_ (by dsimp only; (try simp only [World.size_more, World.size_alloc, World.size_setCell, World.size_drew, Array.size_append]); omega) _ | with_reducible refine Gr.drew ?_))))).mono ?_); rintro e w1 ⟨_, rfl, ⟨pr, pcr, qr, qcr, rfl, hvr⟩, hb⟩; obtain ⟨os, n, rfl⟩ := Below.moreE hb; clear hb)
  exact hQ _ _ _ _ _ _ _ _ _ _ _ _ _ _ _ (by repeat (first | (with_reducible exact Gr.refl _) | with_reducible refine Gr.alloc ?_ _ | with_reducible refine Gr.more ?_ _ _ | with_reducible refine Gr.setCell ?_ (by dsimp only; (try simp only [World.size_more, World.size_alloc, World.size_setCell, World.size_drew, Array.size_append]); omega) _ | with_reducible refine Gr.drew ?_)) ((by (try simp only [World.size_more, World.size_alloc, World.size_setCell, World.size_drew, Array.size_append]); omega)) (⟨pr, pcr, qr, qcr, Bx.mk2 (by go_simp) (by go_simp) (by go_simp) (by go_simp), (hvr.up (by repeat (first | (with_reducible exact Gr.refl _) | with_reducible refine Gr.alloc ?_ _ | with_reducible refine Gr.more ?_ _ _ | with_reducible refine Gr.setCell ?_ (by dsimp only; (try simp only [World.size_more, World.size_alloc, World.size_setCell, World.size_drew, Array.size_append]); omega) _ | with_reducible refine Gr.drew ?_))).mono (by (try simp only [World.size_more, World.size_alloc, World.size_setCell, World.size_drew, Array.size_append]); omega) (by (try simp only [World.size_more, World.size_alloc, World.size_setCell, World.size_drew, Array.size_append]); omega)⟩) ((by (try simp only [World.size_more, World.size_alloc, World.size_setCell, World.size_drew, Array.size_append]); omega)) ((by (try simp only [World.size_more, World.size_alloc, World.size_setCell, World.size_drew, Array.size_append]); omega)) (Bx.mk2 (by go_simp) (by go_simp) (by go_simp) (by go_simp))

/-- Region 13 of law3.MemApart. -/
noncomputable def apart_r13_code : Code := ((Try.f8.body).bind (Code.findR 13)).getD .skip
set_option maxRecDepth 100000 in
set_option maxHeartbeats 4000000 in
theorem apart_r13 {Q : Exit → Act → World → Prop} {u0 u1 u2 u3 u5 u6 u7 u8 u9 u10 u12 u13 u14 u15 u16 u17 u18 u19 u20 u21 u22 u23 u24 u25 u26 u27 u28 u29 u30 u31 u32 u33 u34 u35 u36 u37 u38 u39 u40 u41 u42 u43 u44 u45 u46 u47 u48 u49 u50 u51 u52 u53 u54 u55 u56 u57 u58 u59 u60 u61 u62 u63 u64 u65 u66 u67 u68 u69 u70 u71 u72 u73 u74 u75 u76 u77 u78 u79 u80 u81 u82 u83 u84 u85 u86 u87 u88 u89 u90 u91 u92 u93 u94 u95 u96 u97 u98 u99 u100 u101 u102 u103 u104 u105 u106 u107 u108 u109 u110 u111 u112 u113 u114 u115 u116 u117 u118 u119 u120 u121 u122 u123 u124 u125 u126 u127 u128 u129 : Value} {W : World} {b11 b4 : Nat} {P P' : List Int} {B B' : List UInt8} {a s v K A E : Int} {g : Bool} {lo11 : Nat} (h11 : SpBx lo11 W b11 P B) (h4 : Bx W b4 [.int .i64 a, .int .i64 s, .bool g, .int .i64 v]) (HX : CStore P B a s g v P' B' K A E) (hQ : ∀ (z98 z99 z100 z101 z102 z103 z104 z105 z97 z106 z107 z108 : Value) (b17 b18 : Nat) (W' : World), Gr W.heap.size W W' → W.heap.size ≤ b17 → SpBx W.heap.size W' b17 P' B' → W.heap.size ≤ b18 → b17 < b18 → Bx W' b18 [.int .i64 K, .int .i64 A] → Q .normal ⟨#[u0, u1, u2, u3, .pointer (some ⟨b4, 0, none⟩), u5, u6, u7, u8, u9, u10, .pointer (some ⟨b11, 0, none⟩), u12, u13, u14, u15, u16, .pointer (some ⟨b17, 0, none⟩), .pointer (some ⟨b18, 0, none⟩), .int .i64 E, u20, u21, u22, u23, u24, u25, u26, u27, u28, u29, u30, u31, u32, u33, u34, u35, u36, u37, u38, u39, u40, u41, u42, u43, u44, u45, u46, u47, u48, u49, u50, u51, u52, u53, u54, u55, u56, u57, u58, u59, u60, u61, u62, u63, u64, u65, u66, u67, u68, u69, u70, u71, u72, u73, u74, u75, u76, u77, u78, u79, u80, u81, u82, u83, u84, u85, u86, u87, u88, u89, u90, u91, u92, u93, u94, u95, u96, z97, z98, z99, z100, z101, z102, z103, z104, z105, z106, z107, z108, u109, u110, u111, u112, u113, u114, u115, u116, u117, u118, u119, u120, u121, u122, u123, u124, u125, u126, u127, u128, u129], []⟩ W') : Code.wp Try.prog apart_r13_code Q ⟨#[u0, u1, u2, u3, .pointer (some ⟨b4, 0, none⟩), u5, u6, u7, u8, u9, u10, .pointer (some ⟨b11, 0, none⟩), u12, u13, u14, u15, u16, u17, u18, u19, u20, u21, u22, u23, u24, u25, u26, u27, u28, u29, u30, u31, u32, u33, u34, u35, u36, u37, u38, u39, u40, u41, u42, u43, u44, u45, u46, u47, u48, u49, u50, u51, u52, u53, u54, u55, u56, u57, u58, u59, u60, u61, u62, u63, u64, u65, u66, u67, u68, u69, u70, u71, u72, u73, u74, u75, u76, u77, u78, u79, u80, u81, u82, u83, u84, u85, u86, u87, u88, u89, u90, u91, u92, u93, u94, u95, u96, u97, u98, u99, u100, u101, u102, u103, u104, u105, u106, u107, u108, u109, u110, u111, u112, u113, u114, u115, u116, u117, u118, u119, u120, u121, u122, u123, u124, u125, u126, u127, u128, u129], []⟩ W := by
  obtain ⟨p11, pc11, q11, qc11, x11, s11⟩ := h11
  have c11_0 := x11.get 0 _ rfl
  have c11_1 := x11.get 1 _ rfl
  have l11 := x11.lt
  have c4_0 := h4.get 0 _ rfl
  have c4_1 := h4.get 1 _ rfl
  have c4_2 := h4.get 2 _ rfl
  have c4_3 := h4.get 3 _ rfl
  have l4 := h4.lt
  conv => arg 2; whnf
  go_wp2_with first | (go_at_call 34; (refine (HX _ _ _ _ _ (s11.at.up (Gr.below (by repeat (first | (with_reducible exact Gr.refl _) | with_reducible refine Gr.alloc ?_ _ | with_reducible refine Gr.more ?_ _ _ | with_reducible refine Gr.setCell ?_ (by dsimp only; (try simp only [World.size_more, World.size_alloc, World.size_setCell, World.size_drew, Array.size_append]); omega) _ | with_reducible refine Gr.drew ?_))))).mono ?_); rintro e w1 ⟨_, rfl, ⟨pr, pcr, qr, qcr, rfl, hvr⟩, hb⟩; obtain ⟨os, n, rfl⟩ := Below.moreE hb; clear hb)
  exact hQ _ _ _ _ _ _ _ _ _ _ _ _ _ _ _ (by repeat (first | (with_reducible exact Gr.refl _) | with_reducible refine Gr.alloc ?_ _ | with_reducible refine Gr.more ?_ _ _ | with_reducible refine Gr.setCell ?_ (by dsimp only; (try simp only [World.size_more, World.size_alloc, World.size_setCell, World.size_drew, Array.size_append]); omega) _ | with_reducible refine Gr.drew ?_)) ((by (try simp only [World.size_more, World.size_alloc, World.size_setCell, World.size_drew, Array.size_append]); omega)) (⟨pr, pcr, qr, qcr, Bx.mk2 (by go_simp) (by go_simp) (by go_simp) (by go_simp), (hvr.up (by repeat (first | (with_reducible exact Gr.refl _) | with_reducible refine Gr.alloc ?_ _ | with_reducible refine Gr.more ?_ _ _ | with_reducible refine Gr.setCell ?_ (by dsimp only; (try simp only [World.size_more, World.size_alloc, World.size_setCell, World.size_drew, Array.size_append]); omega) _ | with_reducible refine Gr.drew ?_))).mono (by (try simp only [World.size_more, World.size_alloc, World.size_setCell, World.size_drew, Array.size_append]); omega) (by (try simp only [World.size_more, World.size_alloc, World.size_setCell, World.size_drew, Array.size_append]); omega)⟩) ((by (try simp only [World.size_more, World.size_alloc, World.size_setCell, World.size_drew, Array.size_append]); omega)) ((by (try simp only [World.size_more, World.size_alloc, World.size_setCell, World.size_drew, Array.size_append]); omega)) (Bx.mk2 (by go_simp) (by go_simp) (by go_simp) (by go_simp))

/-- Region 15 of law3.MemApart. -/
noncomputable def apart_r15_code : Code := ((Try.f8.body).bind (Code.findR 15)).getD .skip
set_option maxRecDepth 100000 in
set_option maxHeartbeats 4000000 in
theorem apart_r15 {Q : Exit → Act → World → Prop} {u0 u1 u2 u3 u4 u5 u6 u7 u9 u10 u11 u12 u13 u15 u16 u17 u18 u19 u20 u21 u22 u23 u24 u25 u26 u27 u28 u29 u30 u31 u32 u33 u34 u35 u36 u37 u38 u39 u40 u41 u42 u43 u44 u45 u46 u47 u48 u49 u50 u51 u52 u53 u54 u55 u56 u57 u58 u59 u60 u61 u62 u63 u64 u65 u66 u67 u68 u69 u70 u71 u72 u73 u74 u75 u76 u77 u78 u79 u80 u81 u82 u83 u84 u85 u86 u87 u88 u89 u90 u91 u92 u93 u94 u95 u96 u97 u98 u99 u100 u101 u102 u103 u104 u105 u106 u107 u108 u109 u110 u111 u112 u113 u114 u115 u116 u117 u118 u119 u120 u121 u122 u123 u124 u125 u126 u127 u128 u129 : Value} {W : World} {b8 b14 : Nat} {P P2 : List Int} {B C : List UInt8}   {lo8 : Nat} (h8 : SpBx lo8 W b8 P B) {lo14 : Nat} (h14 : SpBx lo14 W b14 P2 C) (hlt : b8 < b14) (hQ : ∀ (z112 : Value) (W' : World), Caught b14 W W' → SpBx 0 W' b14 P B → Q .normal ⟨#[u0, u1, u2, u3, u4, u5, u6, u7, .pointer (some ⟨b8, 0, none⟩), u9, u10, u11, u12, u13, .pointer (some ⟨b14, 0, none⟩), u15, u16, u17, u18, u19, u20, u21, u22, u23, u24, u25, u26, u27, u28, u29, u30, u31, u32, u33, u34, u35, u36, u37, u38, u39, u40, u41, u42, u43, u44, u45, u46, u47, u48, u49, u50, u51, u52, u53, u54, u55, u56, u57, u58, u59, u60, u61, u62, u63, u64, u65, u66, u67, u68, u69, u70, u71, u72, u73, u74, u75, u76, u77, u78, u79, u80, u81, u82, u83, u84, u85, u86, u87, u88, u89, u90, u91, u92, u93, u94, u95, u96, u97, u98, u99, u100, u101, u102, u103, u104, u105, u106, u107, u108, u109, u110, u111, z112, u113, u114, u115, u116, u117, u118, u119, u120, u121, u122, u123, u124, u125, u126, u127, u128, u129], []⟩ W') : Code.wp Try.prog apart_r15_code Q ⟨#[u0, u1, u2, u3, u4, u5, u6, u7, .pointer (some ⟨b8, 0, none⟩), u9, u10, u11, u12, u13, .pointer (some ⟨b14, 0, none⟩), u15, u16, u17, u18, u19, u20, u21, u22, u23, u24, u25, u26, u27, u28, u29, u30, u31, u32, u33, u34, u35, u36, u37, u38, u39, u40, u41, u42, u43, u44, u45, u46, u47, u48, u49, u50, u51, u52, u53, u54, u55, u56, u57, u58, u59, u60, u61, u62, u63, u64, u65, u66, u67, u68, u69, u70, u71, u72, u73, u74, u75, u76, u77, u78, u79, u80, u81, u82, u83, u84, u85, u86, u87, u88, u89, u90, u91, u92, u93, u94, u95, u96, u97, u98, u99, u100, u101, u102, u103, u104, u105, u106, u107, u108, u109, u110, u111, u112, u113, u114, u115, u116, u117, u118, u119, u120, u121, u122, u123, u124, u125, u126, u127, u128, u129], []⟩ W := by
  obtain ⟨p8, pc8, q8, qc8, x8, s8⟩ := h8
  have c8_0 := x8.get 0 _ rfl
  have c8_1 := x8.get 1 _ rfl
  have l8 := x8.lt
  obtain ⟨p14, pc14, q14, qc14, x14, s14⟩ := h14
  have c14_0 := x14.get 0 _ rfl
  have c14_1 := x14.get 1 _ rfl
  have l14 := x14.lt
  have f14_0 := x14.fz 0 _ rfl
  have f14_1 := x14.fz 1 _ rfl
  conv => arg 2; whnf
  go_wp2_with fail
  exact hQ _ _ (by repeat (first | (with_reducible exact Caught.refl _ _) | with_reducible refine Caught.set ?_ _ _)) (⟨p8, pc8, q8, qc8, Bx.mk2 (by go_simp) (by go_simp) (by go_simp) (by go_simp), ((s8.caught (m := b14) (by repeat (first | (with_reducible exact Caught.refl _ _) | with_reducible refine Caught.set ?_ _ _)) (.inr (by omega)))).mono (Nat.zero_le _) (by omega)⟩)

/-- Region 17 of law3.MemApart. -/
noncomputable def apart_r17_code : Code := ((Try.f8.body).bind (Code.findR 17)).getD .skip
set_option maxRecDepth 100000 in
set_option maxHeartbeats 4000000 in
theorem apart_r17 {Q : Exit → Act → World → Prop} {u0 u1 u2 u3 u4 u5 u6 u7 u8 u9 u10 u12 u13 u14 u15 u16 u18 u19 u20 u21 u22 u23 u24 u25 u26 u27 u28 u29 u30 u31 u32 u33 u34 u35 u36 u37 u38 u39 u40 u41 u42 u43 u44 u45 u46 u47 u48 u49 u50 u51 u52 u53 u54 u55 u56 u57 u58 u59 u60 u61 u62 u63 u64 u65 u66 u67 u68 u69 u70 u71 u72 u73 u74 u75 u76 u77 u78 u79 u80 u81 u82 u83 u84 u85 u86 u87 u88 u89 u90 u91 u92 u93 u94 u95 u96 u97 u98 u99 u100 u101 u102 u103 u104 u105 u106 u107 u108 u109 u110 u111 u112 u113 u114 u115 u116 u117 u118 u119 u120 u121 u122 u123 u124 u125 u126 u127 u128 u129 : Value} {W : World} {b11 b17 : Nat} {P P2 : List Int} {B C : List UInt8}   {lo11 : Nat} (h11 : SpBx lo11 W b11 P B) {lo17 : Nat} (h17 : SpBx lo17 W b17 P2 C) (hlt : b11 < b17) (hQ : ∀ (z116 : Value) (W' : World), Caught b17 W W' → SpBx 0 W' b17 P B → Q .normal ⟨#[u0, u1, u2, u3, u4, u5, u6, u7, u8, u9, u10, .pointer (some ⟨b11, 0, none⟩), u12, u13, u14, u15, u16, .pointer (some ⟨b17, 0, none⟩), u18, u19, u20, u21, u22, u23, u24, u25, u26, u27, u28, u29, u30, u31, u32, u33, u34, u35, u36, u37, u38, u39, u40, u41, u42, u43, u44, u45, u46, u47, u48, u49, u50, u51, u52, u53, u54, u55, u56, u57, u58, u59, u60, u61, u62, u63, u64, u65, u66, u67, u68, u69, u70, u71, u72, u73, u74, u75, u76, u77, u78, u79, u80, u81, u82, u83, u84, u85, u86, u87, u88, u89, u90, u91, u92, u93, u94, u95, u96, u97, u98, u99, u100, u101, u102, u103, u104, u105, u106, u107, u108, u109, u110, u111, u112, u113, u114, u115, z116, u117, u118, u119, u120, u121, u122, u123, u124, u125, u126, u127, u128, u129], []⟩ W') : Code.wp Try.prog apart_r17_code Q ⟨#[u0, u1, u2, u3, u4, u5, u6, u7, u8, u9, u10, .pointer (some ⟨b11, 0, none⟩), u12, u13, u14, u15, u16, .pointer (some ⟨b17, 0, none⟩), u18, u19, u20, u21, u22, u23, u24, u25, u26, u27, u28, u29, u30, u31, u32, u33, u34, u35, u36, u37, u38, u39, u40, u41, u42, u43, u44, u45, u46, u47, u48, u49, u50, u51, u52, u53, u54, u55, u56, u57, u58, u59, u60, u61, u62, u63, u64, u65, u66, u67, u68, u69, u70, u71, u72, u73, u74, u75, u76, u77, u78, u79, u80, u81, u82, u83, u84, u85, u86, u87, u88, u89, u90, u91, u92, u93, u94, u95, u96, u97, u98, u99, u100, u101, u102, u103, u104, u105, u106, u107, u108, u109, u110, u111, u112, u113, u114, u115, u116, u117, u118, u119, u120, u121, u122, u123, u124, u125, u126, u127, u128, u129], []⟩ W := by
  obtain ⟨p11, pc11, q11, qc11, x11, s11⟩ := h11
  have c11_0 := x11.get 0 _ rfl
  have c11_1 := x11.get 1 _ rfl
  have l11 := x11.lt
  obtain ⟨p17, pc17, q17, qc17, x17, s17⟩ := h17
  have c17_0 := x17.get 0 _ rfl
  have c17_1 := x17.get 1 _ rfl
  have l17 := x17.lt
  have f17_0 := x17.fz 0 _ rfl
  have f17_1 := x17.fz 1 _ rfl
  conv => arg 2; whnf
  go_wp2_with fail
  exact hQ _ _ (by repeat (first | (with_reducible exact Caught.refl _ _) | with_reducible refine Caught.set ?_ _ _)) (⟨p11, pc11, q11, qc11, Bx.mk2 (by go_simp) (by go_simp) (by go_simp) (by go_simp), ((s11.caught (m := b17) (by repeat (first | (with_reducible exact Caught.refl _ _) | with_reducible refine Caught.set ?_ _ _)) (.inr (by omega)))).mono (Nat.zero_le _) (by omega)⟩)

set_option maxRecDepth 100000 in
set_option maxHeartbeats 16000000 in
theorem apart_e1 (w : World) (P : List Int) (p : Option Addr) (pc : Nat) (B : List UInt8) (q : Option Addr) (qc : Nat) (hS : SpIn 0 w.heap.size w P p B q qc) (a s : Int) (g : Bool) (v b t : Int) (h : Bool) (y : Int) (HC : CCheck P B 30)  : Calls Try.prog 8 #[spV p P.length pc q B.length qc, .agg #[.int .i64 a, .int .i64 s, .bool g, .int .i64 v], .agg #[.int .i64 b, .int .i64 t, .bool h, .int .i64 y]] w fun e w' => e = .returned (.bool true) ∧ Below w.heap.size w w' := by
  go_enter Try.func8, Try.ntmps8
  go_upto_region 1 with fail
  refine apart_r1 msane_any ?_
  intro _ W1 g1
  have h3 : SpBx 0 W1 (w.heap.size) P B := SpBx.up g1 ⟨p, pc, q, qc, Bx.mk2 (by go_simp) (by go_simp) (by go_simp) (by go_simp), (hS.up (by repeat (first | (with_reducible exact Gr.refl _) | with_reducible refine Gr.alloc ?_ _ | with_reducible refine Gr.more ?_ _ _ | with_reducible refine Gr.setCell ?_ (by dsimp only; (try simp only [World.size_more, World.size_alloc, World.size_setCell, World.size_drew, Array.size_append]); omega) _ | with_reducible refine Gr.drew ?_))).mono (by (try simp only [World.size_more, World.size_alloc, World.size_setCell, World.size_drew, Array.size_append]); omega) (by (try simp only [World.size_more, World.size_alloc, World.size_setCell, World.size_drew, Array.size_append]); omega)⟩
  have h4 : Bx W1 (w.heap.size + 1) [.int .i64 a, .int .i64 s, .bool g, .int .i64 v] := Bx.up g1 (Bx.mk4 (by go_simp) (by go_simp) (by go_simp) (by go_simp) (by go_simp) (by go_simp) (by go_simp) (by go_simp))
  have h5 : Bx W1 (w.heap.size + 1 + 1) [.int .i64 b, .int .i64 t, .bool h, .int .i64 y] := Bx.up g1 (Bx.mk4 (by go_simp) (by go_simp) (by go_simp) (by go_simp) (by go_simp) (by go_simp) (by go_simp) (by go_simp))
  have hG : Gr w.heap.size w W1 := Gr.trans (by repeat (first | (with_reducible exact Gr.refl _) | with_reducible refine Gr.alloc ?_ _ | with_reducible refine Gr.more ?_ _ _ | with_reducible refine Gr.setCell ?_ (by dsimp only; (try simp only [World.size_more, World.size_alloc, World.size_setCell, World.size_drew, Array.size_append]); omega) _ | with_reducible refine Gr.drew ?_)) g1
  clear g1
  obtain ⟨p3, pc3, q3, qc3, x3, s3⟩ := h3
  have c3_0 := x3.get 0 _ rfl
  have c3_1 := x3.get 1 _ rfl
  have l3 := x3.lt
  have l4 := h4.lt
  have l5 := h5.lt
  have c4_0 := h4.get 0 _ rfl
  have c4_1 := h4.get 1 _ rfl
  have c4_2 := h4.get 2 _ rfl
  have c4_3 := h4.get 3 _ rfl
  have c5_0 := h5.get 0 _ rfl
  have c5_1 := h5.get 1 _ rfl
  have c5_2 := h5.get 2 _ rfl
  have c5_3 := h5.get 3 _ rfl
  go_wp2_with first | (go_at_call 21; (refine (HC _ _ _ _ _ (s3.at.up (Gr.below (by repeat (first | (with_reducible exact Gr.refl _) | with_reducible refine Gr.alloc ?_ _ | with_reducible refine Gr.more ?_ _ _ | with_reducible refine Gr.setCell ?_ (by dsimp only; (try simp only [World.size_more, World.size_alloc, World.size_setCell, World.size_drew, Array.size_append]); omega) _ | with_reducible refine Gr.drew ?_))))).mono ?_); rintro e w1 ⟨rfl, hb⟩; obtain ⟨os, n, rfl⟩ := Below.moreE hb; clear hb)
  refine bodyPost_ret (v := .bool true) (by simp [results, Try.results8, go_sem]) rfl ⟨rfl, Gr.below (by repeat (first | (with_reducible exact hG) | with_reducible refine Gr.alloc ?_ _ | with_reducible refine Gr.more ?_ _ _ | with_reducible refine Gr.setCell ?_ (by dsimp only; (try simp only [World.size_more, World.size_alloc, World.size_setCell, World.size_drew, Array.size_append]); omega) _ | with_reducible refine Gr.drew ?_))⟩

set_option maxRecDepth 100000 in
set_option maxHeartbeats 16000000 in
theorem apart_e2 (w : World) (P : List Int) (p : Option Addr) (pc : Nat) (B : List UInt8) (q : Option Addr) (qc : Nat) (hS : SpIn 0 w.heap.size w P p B q qc) (a s : Int) (g : Bool) (v b t : Int) (h : Bool) (y : Int) (HC : CCheck P B 0) (HR : ∀ w, Calls Try.prog 45 #[tyV s g] w fun e w' => e = .returned (.int .i64 10) ∧ Below w.heap.size w w')  : Calls Try.prog 8 #[spV p P.length pc q B.length qc, .agg #[.int .i64 a, .int .i64 s, .bool g, .int .i64 v], .agg #[.int .i64 b, .int .i64 t, .bool h, .int .i64 y]] w fun e w' => e = .returned (.bool true) ∧ Below w.heap.size w w' := by
  go_enter Try.func8, Try.ntmps8
  go_upto_region 1 with fail
  refine apart_r1 msane_any ?_
  intro _ W1 g1
  have h3 : SpBx 0 W1 (w.heap.size) P B := SpBx.up g1 ⟨p, pc, q, qc, Bx.mk2 (by go_simp) (by go_simp) (by go_simp) (by go_simp), (hS.up (by repeat (first | (with_reducible exact Gr.refl _) | with_reducible refine Gr.alloc ?_ _ | with_reducible refine Gr.more ?_ _ _ | with_reducible refine Gr.setCell ?_ (by dsimp only; (try simp only [World.size_more, World.size_alloc, World.size_setCell, World.size_drew, Array.size_append]); omega) _ | with_reducible refine Gr.drew ?_))).mono (by (try simp only [World.size_more, World.size_alloc, World.size_setCell, World.size_drew, Array.size_append]); omega) (by (try simp only [World.size_more, World.size_alloc, World.size_setCell, World.size_drew, Array.size_append]); omega)⟩
  have h4 : Bx W1 (w.heap.size + 1) [.int .i64 a, .int .i64 s, .bool g, .int .i64 v] := Bx.up g1 (Bx.mk4 (by go_simp) (by go_simp) (by go_simp) (by go_simp) (by go_simp) (by go_simp) (by go_simp) (by go_simp))
  have h5 : Bx W1 (w.heap.size + 1 + 1) [.int .i64 b, .int .i64 t, .bool h, .int .i64 y] := Bx.up g1 (Bx.mk4 (by go_simp) (by go_simp) (by go_simp) (by go_simp) (by go_simp) (by go_simp) (by go_simp) (by go_simp))
  have hG : Gr w.heap.size w W1 := Gr.trans (by repeat (first | (with_reducible exact Gr.refl _) | with_reducible refine Gr.alloc ?_ _ | with_reducible refine Gr.more ?_ _ _ | with_reducible refine Gr.setCell ?_ (by dsimp only; (try simp only [World.size_more, World.size_alloc, World.size_setCell, World.size_drew, Array.size_append]); omega) _ | with_reducible refine Gr.drew ?_)) g1
  clear g1
  obtain ⟨p3, pc3, q3, qc3, x3, s3⟩ := h3
  have c3_0 := x3.get 0 _ rfl
  have c3_1 := x3.get 1 _ rfl
  have l3 := x3.lt
  have l4 := h4.lt
  have l5 := h5.lt
  have c4_0 := h4.get 0 _ rfl
  have c4_1 := h4.get 1 _ rfl
  have c4_2 := h4.get 2 _ rfl
  have c4_3 := h4.get 3 _ rfl
  have c5_0 := h5.get 0 _ rfl
  have c5_1 := h5.get 1 _ rfl
  have c5_2 := h5.get 2 _ rfl
  have c5_3 := h5.get 3 _ rfl
  go_wp2_with first | (go_at_call 21; (refine (HC _ _ _ _ _ (s3.at.up (Gr.below (by repeat (first | (with_reducible exact Gr.refl _) | with_reducible refine Gr.alloc ?_ _ | with_reducible refine Gr.more ?_ _ _ | with_reducible refine Gr.setCell ?_ (by dsimp only; (try simp only [World.size_more, World.size_alloc, World.size_setCell, World.size_drew, Array.size_append]); omega) _ | with_reducible refine Gr.drew ?_))))).mono ?_); rintro e w1 ⟨rfl, hb⟩; obtain ⟨os, n, rfl⟩ := Below.moreE hb; clear hb) | (go_at_call 45; (with_reducible refine (HR _).mono ?_); rintro e w1 ⟨rfl, hb⟩; obtain ⟨os, n, rfl⟩ := Below.moreE hb; clear hb)
  refine bodyPost_ret (v := .bool true) (by simp [results, Try.results8, go_sem]) rfl ⟨rfl, Gr.below (by repeat (first | (with_reducible exact hG) | with_reducible refine Gr.alloc ?_ _ | with_reducible refine Gr.more ?_ _ _ | with_reducible refine Gr.setCell ?_ (by dsimp only; (try simp only [World.size_more, World.size_alloc, World.size_setCell, World.size_drew, Array.size_append]); omega) _ | with_reducible refine Gr.drew ?_))⟩

set_option maxRecDepth 100000 in
set_option maxHeartbeats 16000000 in
theorem apart_e3 (w : World) (P : List Int) (p : Option Addr) (pc : Nat) (B : List UInt8) (q : Option Addr) (qc : Nat) (hS : SpIn 0 w.heap.size w P p B q qc) (a s : Int) (g : Bool) (v b t : Int) (h : Bool) (y : Int) (HC : CCheck P B 0) (HR : ∀ w, Calls Try.prog 45 #[tyV s g] w fun e w' => e = .returned (.int .i64 0) ∧ Below w.heap.size w w') (HR2 : ∀ w, Calls Try.prog 45 #[tyV t h] w fun e w' => e = .returned (.int .i64 10) ∧ Below w.heap.size w w')  : Calls Try.prog 8 #[spV p P.length pc q B.length qc, .agg #[.int .i64 a, .int .i64 s, .bool g, .int .i64 v], .agg #[.int .i64 b, .int .i64 t, .bool h, .int .i64 y]] w fun e w' => e = .returned (.bool true) ∧ Below w.heap.size w w' := by
  go_enter Try.func8, Try.ntmps8
  go_upto_region 1 with fail
  refine apart_r1 msane_any ?_
  intro _ W1 g1
  have h3 : SpBx 0 W1 (w.heap.size) P B := SpBx.up g1 ⟨p, pc, q, qc, Bx.mk2 (by go_simp) (by go_simp) (by go_simp) (by go_simp), (hS.up (by repeat (first | (with_reducible exact Gr.refl _) | with_reducible refine Gr.alloc ?_ _ | with_reducible refine Gr.more ?_ _ _ | with_reducible refine Gr.setCell ?_ (by dsimp only; (try simp only [World.size_more, World.size_alloc, World.size_setCell, World.size_drew, Array.size_append]); omega) _ | with_reducible refine Gr.drew ?_))).mono (by (try simp only [World.size_more, World.size_alloc, World.size_setCell, World.size_drew, Array.size_append]); omega) (by (try simp only [World.size_more, World.size_alloc, World.size_setCell, World.size_drew, Array.size_append]); omega)⟩
  have h4 : Bx W1 (w.heap.size + 1) [.int .i64 a, .int .i64 s, .bool g, .int .i64 v] := Bx.up g1 (Bx.mk4 (by go_simp) (by go_simp) (by go_simp) (by go_simp) (by go_simp) (by go_simp) (by go_simp) (by go_simp))
  have h5 : Bx W1 (w.heap.size + 1 + 1) [.int .i64 b, .int .i64 t, .bool h, .int .i64 y] := Bx.up g1 (Bx.mk4 (by go_simp) (by go_simp) (by go_simp) (by go_simp) (by go_simp) (by go_simp) (by go_simp) (by go_simp))
  have hG : Gr w.heap.size w W1 := Gr.trans (by repeat (first | (with_reducible exact Gr.refl _) | with_reducible refine Gr.alloc ?_ _ | with_reducible refine Gr.more ?_ _ _ | with_reducible refine Gr.setCell ?_ (by dsimp only; (try simp only [World.size_more, World.size_alloc, World.size_setCell, World.size_drew, Array.size_append]); omega) _ | with_reducible refine Gr.drew ?_)) g1
  clear g1
  obtain ⟨p3, pc3, q3, qc3, x3, s3⟩ := h3
  have c3_0 := x3.get 0 _ rfl
  have c3_1 := x3.get 1 _ rfl
  have l3 := x3.lt
  have l4 := h4.lt
  have l5 := h5.lt
  have c4_0 := h4.get 0 _ rfl
  have c4_1 := h4.get 1 _ rfl
  have c4_2 := h4.get 2 _ rfl
  have c4_3 := h4.get 3 _ rfl
  have c5_0 := h5.get 0 _ rfl
  have c5_1 := h5.get 1 _ rfl
  have c5_2 := h5.get 2 _ rfl
  have c5_3 := h5.get 3 _ rfl
  go_wp2_with first | (go_at_call 21; (refine (HC _ _ _ _ _ (s3.at.up (Gr.below (by repeat (first | (with_reducible exact Gr.refl _) | with_reducible refine Gr.alloc ?_ _ | with_reducible refine Gr.more ?_ _ _ | with_reducible refine Gr.setCell ?_ (by dsimp only; (try simp only [World.size_more, World.size_alloc, World.size_setCell, World.size_drew, Array.size_append]); omega) _ | with_reducible refine Gr.drew ?_))))).mono ?_); rintro e w1 ⟨rfl, hb⟩; obtain ⟨os, n, rfl⟩ := Below.moreE hb; clear hb) | (go_at_call 45; (first | (with_reducible refine (HR _).mono ?_) | (with_reducible refine (HR2 _).mono ?_)); rintro e w1 ⟨rfl, hb⟩; obtain ⟨os, n, rfl⟩ := Below.moreE hb; clear hb)
  refine bodyPost_ret (v := .bool true) (by simp [results, Try.results8, go_sem]) rfl ⟨rfl, Gr.below (by repeat (first | (with_reducible exact hG) | with_reducible refine Gr.alloc ?_ _ | with_reducible refine Gr.more ?_ _ _ | with_reducible refine Gr.setCell ?_ (by dsimp only; (try simp only [World.size_more, World.size_alloc, World.size_setCell, World.size_drew, Array.size_append]); omega) _ | with_reducible refine Gr.drew ?_))⟩

set_option maxRecDepth 100000 in
set_option maxHeartbeats 16000000 in
theorem apart_e4 (w : World) (P : List Int) (p : Option Addr) (pc : Nat) (B : List UInt8) (q : Option Addr) (qc : Nat) (hS : SpIn 0 w.heap.size w P p B q qc) (a s : Int) (g : Bool) (v b t : Int) (h : Bool) (y : Int) (HC : CCheck P B 0) (HR : ∀ w, Calls Try.prog 45 #[tyV s g] w fun e w' => e = .returned (.int .i64 0) ∧ Below w.heap.size w w') (HR2 : ∀ w, Calls Try.prog 45 #[tyV t h] w fun e w' => e = .returned (.int .i64 0) ∧ Below w.heap.size w w') (HA : ∀ w, Calls Try.prog 44 #[.agg #[.int .i64 a, .int .i64 s, .bool g, .int .i64 v], .agg #[.int .i64 b, .int .i64 t, .bool h, .int .i64 y]] w fun e w' => e = .returned (.bool false) ∧ Below w.heap.size w w') : Calls Try.prog 8 #[spV p P.length pc q B.length qc, .agg #[.int .i64 a, .int .i64 s, .bool g, .int .i64 v], .agg #[.int .i64 b, .int .i64 t, .bool h, .int .i64 y]] w fun e w' => e = .returned (.bool true) ∧ Below w.heap.size w w' := by
  go_enter Try.func8, Try.ntmps8
  go_upto_region 1 with fail
  refine apart_r1 msane_any ?_
  intro _ W1 g1
  have h3 : SpBx 0 W1 (w.heap.size) P B := SpBx.up g1 ⟨p, pc, q, qc, Bx.mk2 (by go_simp) (by go_simp) (by go_simp) (by go_simp), (hS.up (by repeat (first | (with_reducible exact Gr.refl _) | with_reducible refine Gr.alloc ?_ _ | with_reducible refine Gr.more ?_ _ _ | with_reducible refine Gr.setCell ?_ (by dsimp only; (try simp only [World.size_more, World.size_alloc, World.size_setCell, World.size_drew, Array.size_append]); omega) _ | with_reducible refine Gr.drew ?_))).mono (by (try simp only [World.size_more, World.size_alloc, World.size_setCell, World.size_drew, Array.size_append]); omega) (by (try simp only [World.size_more, World.size_alloc, World.size_setCell, World.size_drew, Array.size_append]); omega)⟩
  have h4 : Bx W1 (w.heap.size + 1) [.int .i64 a, .int .i64 s, .bool g, .int .i64 v] := Bx.up g1 (Bx.mk4 (by go_simp) (by go_simp) (by go_simp) (by go_simp) (by go_simp) (by go_simp) (by go_simp) (by go_simp))
  have h5 : Bx W1 (w.heap.size + 1 + 1) [.int .i64 b, .int .i64 t, .bool h, .int .i64 y] := Bx.up g1 (Bx.mk4 (by go_simp) (by go_simp) (by go_simp) (by go_simp) (by go_simp) (by go_simp) (by go_simp) (by go_simp))
  have hG : Gr w.heap.size w W1 := Gr.trans (by repeat (first | (with_reducible exact Gr.refl _) | with_reducible refine Gr.alloc ?_ _ | with_reducible refine Gr.more ?_ _ _ | with_reducible refine Gr.setCell ?_ (by dsimp only; (try simp only [World.size_more, World.size_alloc, World.size_setCell, World.size_drew, Array.size_append]); omega) _ | with_reducible refine Gr.drew ?_)) g1
  clear g1
  obtain ⟨p3, pc3, q3, qc3, x3, s3⟩ := h3
  have c3_0 := x3.get 0 _ rfl
  have c3_1 := x3.get 1 _ rfl
  have l3 := x3.lt
  have l4 := h4.lt
  have l5 := h5.lt
  have c4_0 := h4.get 0 _ rfl
  have c4_1 := h4.get 1 _ rfl
  have c4_2 := h4.get 2 _ rfl
  have c4_3 := h4.get 3 _ rfl
  have c5_0 := h5.get 0 _ rfl
  have c5_1 := h5.get 1 _ rfl
  have c5_2 := h5.get 2 _ rfl
  have c5_3 := h5.get 3 _ rfl
  go_wp2_with first | (go_at_call 21; (refine (HC _ _ _ _ _ (s3.at.up (Gr.below (by repeat (first | (with_reducible exact Gr.refl _) | with_reducible refine Gr.alloc ?_ _ | with_reducible refine Gr.more ?_ _ _ | with_reducible refine Gr.setCell ?_ (by dsimp only; (try simp only [World.size_more, World.size_alloc, World.size_setCell, World.size_drew, Array.size_append]); omega) _ | with_reducible refine Gr.drew ?_))))).mono ?_); rintro e w1 ⟨rfl, hb⟩; obtain ⟨os, n, rfl⟩ := Below.moreE hb; clear hb) | (go_at_call 45; (first | (with_reducible refine (HR _).mono ?_) | (with_reducible refine (HR2 _).mono ?_)); rintro e w1 ⟨rfl, hb⟩; obtain ⟨os, n, rfl⟩ := Below.moreE hb; clear hb) | (go_at_call 44; (refine (HA _).mono ?_); rintro e w1 ⟨rfl, hb⟩; obtain ⟨os, n, rfl⟩ := Below.moreE hb; clear hb)
  refine bodyPost_ret (v := .bool true) (by simp [results, Try.results8, go_sem]) rfl ⟨rfl, Gr.below (by repeat (first | (with_reducible exact hG) | with_reducible refine Gr.alloc ?_ _ | with_reducible refine Gr.more ?_ _ _ | with_reducible refine Gr.setCell ?_ (by dsimp only; (try simp only [World.size_more, World.size_alloc, World.size_setCell, World.size_drew, Array.size_append]); omega) _ | with_reducible refine Gr.drew ?_))⟩

set_option maxRecDepth 100000 in
set_option maxHeartbeats 16000000 in
theorem apart_oo (w : World) (P : List Int) (p : Option Addr) (pc : Nat) (B : List UInt8) (q : Option Addr) (qc : Nat) (hS : SpIn 0 w.heap.size w P p B q qc) (a s : Int) (g : Bool) (v b t : Int) (h : Bool) (y : Int) {P1 P2 P3 P4 : List Int} {B1 B2 B3 B4 : List UInt8} (HC : CCheck P B 0) (HR : ∀ w, Calls Try.prog 45 #[tyV s g] w fun e w' => e = .returned (.int .i64 0) ∧ Below w.heap.size w w') (HR2 : ∀ w, Calls Try.prog 45 #[tyV t h] w fun e w' => e = .returned (.int .i64 0) ∧ Below w.heap.size w w') (HA : ∀ w, Calls Try.prog 44 #[.agg #[.int .i64 a, .int .i64 s, .bool g, .int .i64 v], .agg #[.int .i64 b, .int .i64 t, .bool h, .int .i64 y]] w fun e w' => e = .returned (.bool true) ∧ Below w.heap.size w w') (H1 : CStore P B a s g v P1 B1 0 0 0) (H2 : CStore P B b t h y P2 B2 0 0 0) (H3 : CStore P1 B1 b t h y P3 B3 0 0 0) (H4 : CStore P2 B2 a s g v P4 B4 0 0 0) (HS : CSame P3 B3 P4 B4 true) : Calls Try.prog 8 #[spV p P.length pc q B.length qc, .agg #[.int .i64 a, .int .i64 s, .bool g, .int .i64 v], .agg #[.int .i64 b, .int .i64 t, .bool h, .int .i64 y]] w fun e w' => e = .returned (.bool true) ∧ Below w.heap.size w w' := by
  go_enter Try.func8, Try.ntmps8
  go_upto_region 1 with fail
  refine apart_r1 msane_any ?_
  intro _ W1 g1
  have h3 : SpBx 0 W1 (w.heap.size) P B := SpBx.up g1 ⟨p, pc, q, qc, Bx.mk2 (by go_simp) (by go_simp) (by go_simp) (by go_simp), (hS.up (by repeat (first | (with_reducible exact Gr.refl _) | with_reducible refine Gr.alloc ?_ _ | with_reducible refine Gr.more ?_ _ _ | with_reducible refine Gr.setCell ?_ (by dsimp only; (try simp only [World.size_more, World.size_alloc, World.size_setCell, World.size_drew, Array.size_append]); omega) _ | with_reducible refine Gr.drew ?_))).mono (by (try simp only [World.size_more, World.size_alloc, World.size_setCell, World.size_drew, Array.size_append]); omega) (by (try simp only [World.size_more, World.size_alloc, World.size_setCell, World.size_drew, Array.size_append]); omega)⟩
  have h4 : Bx W1 (w.heap.size + 1) [.int .i64 a, .int .i64 s, .bool g, .int .i64 v] := Bx.up g1 (Bx.mk4 (by go_simp) (by go_simp) (by go_simp) (by go_simp) (by go_simp) (by go_simp) (by go_simp) (by go_simp))
  have h5 : Bx W1 (w.heap.size + 1 + 1) [.int .i64 b, .int .i64 t, .bool h, .int .i64 y] := Bx.up g1 (Bx.mk4 (by go_simp) (by go_simp) (by go_simp) (by go_simp) (by go_simp) (by go_simp) (by go_simp) (by go_simp))
  have hG : Gr w.heap.size w W1 := Gr.trans (by repeat (first | (with_reducible exact Gr.refl _) | with_reducible refine Gr.alloc ?_ _ | with_reducible refine Gr.more ?_ _ _ | with_reducible refine Gr.setCell ?_ (by dsimp only; (try simp only [World.size_more, World.size_alloc, World.size_setCell, World.size_drew, Array.size_append]); omega) _ | with_reducible refine Gr.drew ?_)) g1
  clear g1
  go_upto_region 2 with fail
  refine apart_r2 h3 h4 h5 HC HR HR2 HA ?_
  intro _ _ _ _ _ _ _ _ _ _ _ _ _ _ _ _ _ _ _ _ _ _ _ _  W2 g2
  replace h3 := SpBx.up g2 h3
  replace h4 := Bx.up g2 h4
  replace h5 := Bx.up g2 h5
  replace hG := Gr.trans hG g2
  clear g2
  have o5 := h5.lt
  go_upto_region 4 with fail
  refine apart_r4 h3 h4 H1 ?_
  intro _ _ _ _ _ _ _ _ _ _ _ _ b8 b9 W3 g3 ge8 n8 ge9 lt9 n9
  replace h3 := SpBx.up g3 h3
  replace h4 := Bx.up g3 h4
  replace h5 := Bx.up g3 h5
  have h8 := n8
  clear n8
  have h9 := n9
  clear n9
  replace hG := Gr.trans hG g3
  clear g3
  have o8 := h8.lt
  have o9 := h9.lt
  go_upto_region 5 with fail
  refine apart_r5 h3 h5 H2 ?_
  intro _ _ _ _ _ _ _ _ _ _ _ _ b11 b12 W4 g4 ge11 n11 ge12 lt12 n12
  replace h3 := SpBx.up g4 h3
  replace h4 := Bx.up g4 h4
  replace h5 := Bx.up g4 h5
  replace h8 := SpBx.up g4 h8
  replace h9 := Bx.up g4 h9
  have h11 := n11
  clear n11
  have h12 := n12
  clear n12
  replace hG := Gr.trans hG g4
  clear g4
  have c9_0 := h9.get 0 _ rfl
  have c9_1 := h9.get 1 _ rfl
  have c12_0 := h12.get 0 _ rfl
  have c12_1 := h12.get 1 _ rfl
  go_upto_region 10 with fail
  clear c9_0 c9_1
  go_upto_region 12 with fail
  clear c12_0 c12_1
  have o11 := h11.lt
  have o12 := h12.lt
  go_upto_region 12 with fail
  refine apart_r12 h8 h5 H3 ?_
  intro _ _ _ _ _ _ _ _ _ _ _ _ b14 b15 W5 g5 ge14 n14 ge15 lt15 n15
  replace h3 := SpBx.up g5 h3
  replace h4 := Bx.up g5 h4
  replace h5 := Bx.up g5 h5
  replace h8 := SpBx.up g5 h8
  replace h9 := Bx.up g5 h9
  replace h11 := SpBx.up g5 h11
  replace h12 := Bx.up g5 h12
  have h14 := n14
  clear n14
  have h15 := n15
  clear n15
  replace hG := Gr.trans hG g5
  clear g5
  have o14 := h14.lt
  have o15 := h15.lt
  go_upto_region 13 with fail
  refine apart_r13 h11 h4 H4 ?_
  intro _ _ _ _ _ _ _ _ _ _ _ _ b17 b18 W6 g6 ge17 n17 ge18 lt18 n18
  replace h3 := SpBx.up g6 h3
  replace h4 := Bx.up g6 h4
  replace h5 := Bx.up g6 h5
  replace h8 := SpBx.up g6 h8
  replace h9 := Bx.up g6 h9
  replace h11 := SpBx.up g6 h11
  replace h12 := Bx.up g6 h12
  replace h14 := SpBx.up g6 h14
  replace h15 := Bx.up g6 h15
  have h17 := n17
  clear n17
  have h18 := n18
  clear n18
  replace hG := Gr.trans hG g6
  clear g6
  have c12_0 := h12.get 0 _ rfl
  have c12_1 := h12.get 1 _ rfl
  go_upto_region 16 with fail
  clear c12_0 c12_1
  have c9_0 := h9.get 0 _ rfl
  have c9_1 := h9.get 1 _ rfl
  go_upto_region 18 with fail
  clear c9_0 c9_1
  have c9_0 := h9.get 0 _ rfl
  have c9_1 := h9.get 1 _ rfl
  have c12_0 := h12.get 0 _ rfl
  have c12_1 := h12.get 1 _ rfl
  have c15_0 := h15.get 0 _ rfl
  have c15_1 := h15.get 1 _ rfl
  have c18_0 := h18.get 0 _ rfl
  have c18_1 := h18.get 1 _ rfl
  obtain ⟨p14, pc14, q14, qc14, x14, s14⟩ := h14
  have c14_0 := x14.get 0 _ rfl
  have c14_1 := x14.get 1 _ rfl
  obtain ⟨p17, pc17, q17, qc17, x17, s17⟩ := h17
  have c17_0 := x17.get 0 _ rfl
  have c17_1 := x17.get 1 _ rfl
  go_wp2_with (go_at_call 24; (refine (HS _ _ _ _ _ _ _ _ _ (s14.at.up (Gr.below (by repeat (first | (with_reducible exact Gr.refl _) | with_reducible refine Gr.alloc ?_ _ | with_reducible refine Gr.more ?_ _ _ | with_reducible refine Gr.setCell ?_ (by dsimp only; (try simp only [World.size_more, World.size_alloc, World.size_setCell, World.size_drew, Array.size_append]); omega) _ | with_reducible refine Gr.drew ?_)))) (s17.at.up (Gr.below (by repeat (first | (with_reducible exact Gr.refl _) | with_reducible refine Gr.alloc ?_ _ | with_reducible refine Gr.more ?_ _ _ | with_reducible refine Gr.setCell ?_ (by dsimp only; (try simp only [World.size_more, World.size_alloc, World.size_setCell, World.size_drew, Array.size_append]); omega) _ | with_reducible refine Gr.drew ?_))))).mono ?_); rintro e w1 ⟨rfl, hb⟩; obtain ⟨os, n, rfl⟩ := Below.moreE hb; clear hb)
  refine bodyPost_ret (v := .bool true) (by simp [results, Try.results8, go_sem]) rfl ⟨rfl, Gr.below (by repeat (first | (with_reducible exact hG) | with_reducible refine Gr.alloc ?_ _ | with_reducible refine Gr.more ?_ _ _ | with_reducible refine Gr.setCell ?_ (by dsimp only; (try simp only [World.size_more, World.size_alloc, World.size_setCell, World.size_drew, Array.size_append]); omega) _ | with_reducible refine Gr.drew ?_))⟩

set_option maxRecDepth 100000 in
set_option maxHeartbeats 16000000 in
theorem apart_fo (w : World) (P : List Int) (p : Option Addr) (pc : Nat) (B : List UInt8) (q : Option Addr) (qc : Nat) (hS : SpIn 0 w.heap.size w P p B q qc) (a s : Int) (g : Bool) (v b t : Int) (h : Bool) (y : Int) {P1 P2 P3 P4 : List Int} {B1 B2 B3 B4 : List UInt8} {K1 A1 : Int} (HC : CCheck P B 0) (HR : ∀ w, Calls Try.prog 45 #[tyV s g] w fun e w' => e = .returned (.int .i64 0) ∧ Below w.heap.size w w') (HR2 : ∀ w, Calls Try.prog 45 #[tyV t h] w fun e w' => e = .returned (.int .i64 0) ∧ Below w.heap.size w w') (HA : ∀ w, Calls Try.prog 44 #[.agg #[.int .i64 a, .int .i64 s, .bool g, .int .i64 v], .agg #[.int .i64 b, .int .i64 t, .bool h, .int .i64 y]] w fun e w' => e = .returned (.bool true) ∧ Below w.heap.size w w') (H1 : CStore P B a s g v P1 B1 K1 A1 0) (H2 : CStore P B b t h y P2 B2 0 0 0) (H3 : CStore P B b t h y P3 B3 0 0 0) (H4 : CStore P2 B2 a s g v P4 B4 K1 A1 0) (HS : CSame P3 B3 P2 B2 true) (hk1 : (K1 != 0) = true) : Calls Try.prog 8 #[spV p P.length pc q B.length qc, .agg #[.int .i64 a, .int .i64 s, .bool g, .int .i64 v], .agg #[.int .i64 b, .int .i64 t, .bool h, .int .i64 y]] w fun e w' => e = .returned (.bool true) ∧ Below w.heap.size w w' := by
  go_enter Try.func8, Try.ntmps8
  go_upto_region 1 with fail
  refine apart_r1 msane_any ?_
  intro _ W1 g1
  have h3 : SpBx 0 W1 (w.heap.size) P B := SpBx.up g1 ⟨p, pc, q, qc, Bx.mk2 (by go_simp) (by go_simp) (by go_simp) (by go_simp), (hS.up (by repeat (first | (with_reducible exact Gr.refl _) | with_reducible refine Gr.alloc ?_ _ | with_reducible refine Gr.more ?_ _ _ | with_reducible refine Gr.setCell ?_ (by dsimp only; (try simp only [World.size_more, World.size_alloc, World.size_setCell, World.size_drew, Array.size_append]); omega) _ | with_reducible refine Gr.drew ?_))).mono (by (try simp only [World.size_more, World.size_alloc, World.size_setCell, World.size_drew, Array.size_append]); omega) (by (try simp only [World.size_more, World.size_alloc, World.size_setCell, World.size_drew, Array.size_append]); omega)⟩
  have h4 : Bx W1 (w.heap.size + 1) [.int .i64 a, .int .i64 s, .bool g, .int .i64 v] := Bx.up g1 (Bx.mk4 (by go_simp) (by go_simp) (by go_simp) (by go_simp) (by go_simp) (by go_simp) (by go_simp) (by go_simp))
  have h5 : Bx W1 (w.heap.size + 1 + 1) [.int .i64 b, .int .i64 t, .bool h, .int .i64 y] := Bx.up g1 (Bx.mk4 (by go_simp) (by go_simp) (by go_simp) (by go_simp) (by go_simp) (by go_simp) (by go_simp) (by go_simp))
  have hG : Gr w.heap.size w W1 := Gr.trans (by repeat (first | (with_reducible exact Gr.refl _) | with_reducible refine Gr.alloc ?_ _ | with_reducible refine Gr.more ?_ _ _ | with_reducible refine Gr.setCell ?_ (by dsimp only; (try simp only [World.size_more, World.size_alloc, World.size_setCell, World.size_drew, Array.size_append]); omega) _ | with_reducible refine Gr.drew ?_)) g1
  clear g1
  go_upto_region 2 with fail
  refine apart_r2 h3 h4 h5 HC HR HR2 HA ?_
  intro _ _ _ _ _ _ _ _ _ _ _ _ _ _ _ _ _ _ _ _ _ _ _ _  W2 g2
  replace h3 := SpBx.up g2 h3
  replace h4 := Bx.up g2 h4
  replace h5 := Bx.up g2 h5
  replace hG := Gr.trans hG g2
  clear g2
  have o5 := h5.lt
  go_upto_region 4 with fail
  refine apart_r4 h3 h4 H1 ?_
  intro _ _ _ _ _ _ _ _ _ _ _ _ b8 b9 W3 g3 ge8 n8 ge9 lt9 n9
  replace h3 := SpBx.up g3 h3
  replace h4 := Bx.up g3 h4
  replace h5 := Bx.up g3 h5
  have h8 := n8
  clear n8
  have h9 := n9
  clear n9
  replace hG := Gr.trans hG g3
  clear g3
  have o8 := h8.lt
  have o9 := h9.lt
  go_upto_region 5 with fail
  refine apart_r5 h3 h5 H2 ?_
  intro _ _ _ _ _ _ _ _ _ _ _ _ b11 b12 W4 g4 ge11 n11 ge12 lt12 n12
  replace h3 := SpBx.up g4 h3
  replace h4 := Bx.up g4 h4
  replace h5 := Bx.up g4 h5
  replace h8 := SpBx.up g4 h8
  replace h9 := Bx.up g4 h9
  have h11 := n11
  clear n11
  have h12 := n12
  clear n12
  replace hG := Gr.trans hG g4
  clear g4
  have c9_0 := h9.get 0 _ rfl
  have c9_1 := h9.get 1 _ rfl
  have c12_0 := h12.get 0 _ rfl
  have c12_1 := h12.get 1 _ rfl
  go_upto_region 9 with fail
  clear c9_0 c9_1
  clear c12_0 c12_1
  go_upto_region 9 with fail
  refine apart_r9 h3 h8 (by omega) ?_
  intro _  W5 g5 n8
  replace h3 := h3.caught g5 (by omega) (by omega)
  replace h4 := h4.caught g5 (by omega)
  replace h5 := h5.caught g5 (by omega)
  replace h8 := n8
  clear n8
  replace h9 := h9.caught g5 (by omega)
  replace h11 := h11.caught g5 (by omega) (by omega)
  replace h12 := h12.caught g5 (by omega)
  replace hG := Gr.caught hG g5 (by omega)
  clear g5
  have c12_0 := h12.get 0 _ rfl
  have c12_1 := h12.get 1 _ rfl
  go_upto_region 12 with fail
  clear c12_0 c12_1
  have o11 := h11.lt
  have o12 := h12.lt
  go_upto_region 12 with fail
  refine apart_r12 h8 h5 H3 ?_
  intro _ _ _ _ _ _ _ _ _ _ _ _ b14 b15 W6 g6 ge14 n14 ge15 lt15 n15
  replace h3 := SpBx.up g6 h3
  replace h4 := Bx.up g6 h4
  replace h5 := Bx.up g6 h5
  replace h8 := SpBx.up g6 h8
  replace h9 := Bx.up g6 h9
  replace h11 := SpBx.up g6 h11
  replace h12 := Bx.up g6 h12
  have h14 := n14
  clear n14
  have h15 := n15
  clear n15
  replace hG := Gr.trans hG g6
  clear g6
  have o14 := h14.lt
  have o15 := h15.lt
  go_upto_region 13 with fail
  refine apart_r13 h11 h4 H4 ?_
  intro _ _ _ _ _ _ _ _ _ _ _ _ b17 b18 W7 g7 ge17 n17 ge18 lt18 n18
  replace h3 := SpBx.up g7 h3
  replace h4 := Bx.up g7 h4
  replace h5 := Bx.up g7 h5
  replace h8 := SpBx.up g7 h8
  replace h9 := Bx.up g7 h9
  replace h11 := SpBx.up g7 h11
  replace h12 := Bx.up g7 h12
  replace h14 := SpBx.up g7 h14
  replace h15 := Bx.up g7 h15
  have h17 := n17
  clear n17
  have h18 := n18
  clear n18
  replace hG := Gr.trans hG g7
  clear g7
  have c12_0 := h12.get 0 _ rfl
  have c12_1 := h12.get 1 _ rfl
  go_upto_region 16 with fail
  clear c12_0 c12_1
  have c9_0 := h9.get 0 _ rfl
  have c9_1 := h9.get 1 _ rfl
  go_upto_region 17 with fail
  clear c9_0 c9_1
  go_upto_region 17 with fail
  refine apart_r17 h11 h17 (by omega) ?_
  intro _  W8 g8 n17
  replace h3 := h3.caught g8 (by omega) (by omega)
  replace h4 := h4.caught g8 (by omega)
  replace h5 := h5.caught g8 (by omega)
  replace h8 := h8.caught g8 (by omega) (by omega)
  replace h9 := h9.caught g8 (by omega)
  replace h11 := h11.caught g8 (by omega) (by omega)
  replace h12 := h12.caught g8 (by omega)
  replace h14 := h14.caught g8 (by omega) (by omega)
  replace h15 := h15.caught g8 (by omega)
  replace h17 := n17
  clear n17
  replace h18 := h18.caught g8 (by omega)
  replace hG := Gr.caught hG g8 (by omega)
  clear g8
  have c9_0 := h9.get 0 _ rfl
  have c9_1 := h9.get 1 _ rfl
  have c12_0 := h12.get 0 _ rfl
  have c12_1 := h12.get 1 _ rfl
  have c15_0 := h15.get 0 _ rfl
  have c15_1 := h15.get 1 _ rfl
  have c18_0 := h18.get 0 _ rfl
  have c18_1 := h18.get 1 _ rfl
  obtain ⟨p14, pc14, q14, qc14, x14, s14⟩ := h14
  have c14_0 := x14.get 0 _ rfl
  have c14_1 := x14.get 1 _ rfl
  obtain ⟨p17, pc17, q17, qc17, x17, s17⟩ := h17
  have c17_0 := x17.get 0 _ rfl
  have c17_1 := x17.get 1 _ rfl
  go_wp2_with (go_at_call 24; (refine (HS _ _ _ _ _ _ _ _ _ (s14.at.up (Gr.below (by repeat (first | (with_reducible exact Gr.refl _) | with_reducible refine Gr.alloc ?_ _ | with_reducible refine Gr.more ?_ _ _ | with_reducible refine Gr.setCell ?_ (by dsimp only; (try simp only [World.size_more, World.size_alloc, World.size_setCell, World.size_drew, Array.size_append]); omega) _ | with_reducible refine Gr.drew ?_)))) (s17.at.up (Gr.below (by repeat (first | (with_reducible exact Gr.refl _) | with_reducible refine Gr.alloc ?_ _ | with_reducible refine Gr.more ?_ _ _ | with_reducible refine Gr.setCell ?_ (by dsimp only; (try simp only [World.size_more, World.size_alloc, World.size_setCell, World.size_drew, Array.size_append]); omega) _ | with_reducible refine Gr.drew ?_))))).mono ?_); rintro e w1 ⟨rfl, hb⟩; obtain ⟨os, n, rfl⟩ := Below.moreE hb; clear hb)
  refine bodyPost_ret (v := .bool true) (by simp [results, Try.results8, go_sem]) rfl ⟨rfl, Gr.below (by repeat (first | (with_reducible exact hG) | with_reducible refine Gr.alloc ?_ _ | with_reducible refine Gr.more ?_ _ _ | with_reducible refine Gr.setCell ?_ (by dsimp only; (try simp only [World.size_more, World.size_alloc, World.size_setCell, World.size_drew, Array.size_append]); omega) _ | with_reducible refine Gr.drew ?_))⟩

set_option maxRecDepth 100000 in
set_option maxHeartbeats 16000000 in
theorem apart_of (w : World) (P : List Int) (p : Option Addr) (pc : Nat) (B : List UInt8) (q : Option Addr) (qc : Nat) (hS : SpIn 0 w.heap.size w P p B q qc) (a s : Int) (g : Bool) (v b t : Int) (h : Bool) (y : Int) {P1 P2 P3 P4 : List Int} {B1 B2 B3 B4 : List UInt8} {K2 A2 : Int} (HC : CCheck P B 0) (HR : ∀ w, Calls Try.prog 45 #[tyV s g] w fun e w' => e = .returned (.int .i64 0) ∧ Below w.heap.size w w') (HR2 : ∀ w, Calls Try.prog 45 #[tyV t h] w fun e w' => e = .returned (.int .i64 0) ∧ Below w.heap.size w w') (HA : ∀ w, Calls Try.prog 44 #[.agg #[.int .i64 a, .int .i64 s, .bool g, .int .i64 v], .agg #[.int .i64 b, .int .i64 t, .bool h, .int .i64 y]] w fun e w' => e = .returned (.bool true) ∧ Below w.heap.size w w') (H1 : CStore P B a s g v P1 B1 0 0 0) (H2 : CStore P B b t h y P2 B2 K2 A2 0) (H3 : CStore P1 B1 b t h y P3 B3 K2 A2 0) (H4 : CStore P B a s g v P4 B4 0 0 0) (HS : CSame P1 B1 P4 B4 true) (hk2 : (K2 != 0) = true) : Calls Try.prog 8 #[spV p P.length pc q B.length qc, .agg #[.int .i64 a, .int .i64 s, .bool g, .int .i64 v], .agg #[.int .i64 b, .int .i64 t, .bool h, .int .i64 y]] w fun e w' => e = .returned (.bool true) ∧ Below w.heap.size w w' := by
  go_enter Try.func8, Try.ntmps8
  go_upto_region 1 with fail
  refine apart_r1 msane_any ?_
  intro _ W1 g1
  have h3 : SpBx 0 W1 (w.heap.size) P B := SpBx.up g1 ⟨p, pc, q, qc, Bx.mk2 (by go_simp) (by go_simp) (by go_simp) (by go_simp), (hS.up (by repeat (first | (with_reducible exact Gr.refl _) | with_reducible refine Gr.alloc ?_ _ | with_reducible refine Gr.more ?_ _ _ | with_reducible refine Gr.setCell ?_ (by dsimp only; (try simp only [World.size_more, World.size_alloc, World.size_setCell, World.size_drew, Array.size_append]); omega) _ | with_reducible refine Gr.drew ?_))).mono (by (try simp only [World.size_more, World.size_alloc, World.size_setCell, World.size_drew, Array.size_append]); omega) (by (try simp only [World.size_more, World.size_alloc, World.size_setCell, World.size_drew, Array.size_append]); omega)⟩
  have h4 : Bx W1 (w.heap.size + 1) [.int .i64 a, .int .i64 s, .bool g, .int .i64 v] := Bx.up g1 (Bx.mk4 (by go_simp) (by go_simp) (by go_simp) (by go_simp) (by go_simp) (by go_simp) (by go_simp) (by go_simp))
  have h5 : Bx W1 (w.heap.size + 1 + 1) [.int .i64 b, .int .i64 t, .bool h, .int .i64 y] := Bx.up g1 (Bx.mk4 (by go_simp) (by go_simp) (by go_simp) (by go_simp) (by go_simp) (by go_simp) (by go_simp) (by go_simp))
  have hG : Gr w.heap.size w W1 := Gr.trans (by repeat (first | (with_reducible exact Gr.refl _) | with_reducible refine Gr.alloc ?_ _ | with_reducible refine Gr.more ?_ _ _ | with_reducible refine Gr.setCell ?_ (by dsimp only; (try simp only [World.size_more, World.size_alloc, World.size_setCell, World.size_drew, Array.size_append]); omega) _ | with_reducible refine Gr.drew ?_)) g1
  clear g1
  go_upto_region 2 with fail
  refine apart_r2 h3 h4 h5 HC HR HR2 HA ?_
  intro _ _ _ _ _ _ _ _ _ _ _ _ _ _ _ _ _ _ _ _ _ _ _ _  W2 g2
  replace h3 := SpBx.up g2 h3
  replace h4 := Bx.up g2 h4
  replace h5 := Bx.up g2 h5
  replace hG := Gr.trans hG g2
  clear g2
  have o5 := h5.lt
  go_upto_region 4 with fail
  refine apart_r4 h3 h4 H1 ?_
  intro _ _ _ _ _ _ _ _ _ _ _ _ b8 b9 W3 g3 ge8 n8 ge9 lt9 n9
  replace h3 := SpBx.up g3 h3
  replace h4 := Bx.up g3 h4
  replace h5 := Bx.up g3 h5
  have h8 := n8
  clear n8
  have h9 := n9
  clear n9
  replace hG := Gr.trans hG g3
  clear g3
  have o8 := h8.lt
  have o9 := h9.lt
  go_upto_region 5 with fail
  refine apart_r5 h3 h5 H2 ?_
  intro _ _ _ _ _ _ _ _ _ _ _ _ b11 b12 W4 g4 ge11 n11 ge12 lt12 n12
  replace h3 := SpBx.up g4 h3
  replace h4 := Bx.up g4 h4
  replace h5 := Bx.up g4 h5
  replace h8 := SpBx.up g4 h8
  replace h9 := Bx.up g4 h9
  have h11 := n11
  clear n11
  have h12 := n12
  clear n12
  replace hG := Gr.trans hG g4
  clear g4
  have c9_0 := h9.get 0 _ rfl
  have c9_1 := h9.get 1 _ rfl
  have c12_0 := h12.get 0 _ rfl
  have c12_1 := h12.get 1 _ rfl
  go_upto_region 10 with fail
  clear c9_0 c9_1
  go_upto_region 11 with fail
  clear c12_0 c12_1
  go_upto_region 11 with fail
  refine apart_r11 h3 h11 (by omega) ?_
  intro _  W5 g5 n11
  replace h3 := h3.caught g5 (by omega) (by omega)
  replace h4 := h4.caught g5 (by omega)
  replace h5 := h5.caught g5 (by omega)
  replace h8 := h8.caught g5 (by omega) (by omega)
  replace h9 := h9.caught g5 (by omega)
  replace h11 := n11
  clear n11
  replace h12 := h12.caught g5 (by omega)
  replace hG := Gr.caught hG g5 (by omega)
  clear g5
  have o11 := h11.lt
  have o12 := h12.lt
  go_upto_region 12 with fail
  refine apart_r12 h8 h5 H3 ?_
  intro _ _ _ _ _ _ _ _ _ _ _ _ b14 b15 W6 g6 ge14 n14 ge15 lt15 n15
  replace h3 := SpBx.up g6 h3
  replace h4 := Bx.up g6 h4
  replace h5 := Bx.up g6 h5
  replace h8 := SpBx.up g6 h8
  replace h9 := Bx.up g6 h9
  replace h11 := SpBx.up g6 h11
  replace h12 := Bx.up g6 h12
  have h14 := n14
  clear n14
  have h15 := n15
  clear n15
  replace hG := Gr.trans hG g6
  clear g6
  have o14 := h14.lt
  have o15 := h15.lt
  go_upto_region 13 with fail
  refine apart_r13 h11 h4 H4 ?_
  intro _ _ _ _ _ _ _ _ _ _ _ _ b17 b18 W7 g7 ge17 n17 ge18 lt18 n18
  replace h3 := SpBx.up g7 h3
  replace h4 := Bx.up g7 h4
  replace h5 := Bx.up g7 h5
  replace h8 := SpBx.up g7 h8
  replace h9 := Bx.up g7 h9
  replace h11 := SpBx.up g7 h11
  replace h12 := Bx.up g7 h12
  replace h14 := SpBx.up g7 h14
  replace h15 := Bx.up g7 h15
  have h17 := n17
  clear n17
  have h18 := n18
  clear n18
  replace hG := Gr.trans hG g7
  clear g7
  have c12_0 := h12.get 0 _ rfl
  have c12_1 := h12.get 1 _ rfl
  go_upto_region 15 with fail
  clear c12_0 c12_1
  go_upto_region 15 with fail
  refine apart_r15 h8 h14 (by omega) ?_
  intro _  W8 g8 n14
  replace h3 := h3.caught g8 (by omega) (by omega)
  replace h4 := h4.caught g8 (by omega)
  replace h5 := h5.caught g8 (by omega)
  replace h8 := h8.caught g8 (by omega) (by omega)
  replace h9 := h9.caught g8 (by omega)
  replace h11 := h11.caught g8 (by omega) (by omega)
  replace h12 := h12.caught g8 (by omega)
  replace h14 := n14
  clear n14
  replace h15 := h15.caught g8 (by omega)
  replace h17 := h17.caught g8 (by omega) (by omega)
  replace h18 := h18.caught g8 (by omega)
  replace hG := Gr.caught hG g8 (by omega)
  clear g8
  have c9_0 := h9.get 0 _ rfl
  have c9_1 := h9.get 1 _ rfl
  go_upto_region 18 with fail
  clear c9_0 c9_1
  have c9_0 := h9.get 0 _ rfl
  have c9_1 := h9.get 1 _ rfl
  have c12_0 := h12.get 0 _ rfl
  have c12_1 := h12.get 1 _ rfl
  have c15_0 := h15.get 0 _ rfl
  have c15_1 := h15.get 1 _ rfl
  have c18_0 := h18.get 0 _ rfl
  have c18_1 := h18.get 1 _ rfl
  obtain ⟨p14, pc14, q14, qc14, x14, s14⟩ := h14
  have c14_0 := x14.get 0 _ rfl
  have c14_1 := x14.get 1 _ rfl
  obtain ⟨p17, pc17, q17, qc17, x17, s17⟩ := h17
  have c17_0 := x17.get 0 _ rfl
  have c17_1 := x17.get 1 _ rfl
  go_wp2_with (go_at_call 24; (refine (HS _ _ _ _ _ _ _ _ _ (s14.at.up (Gr.below (by repeat (first | (with_reducible exact Gr.refl _) | with_reducible refine Gr.alloc ?_ _ | with_reducible refine Gr.more ?_ _ _ | with_reducible refine Gr.setCell ?_ (by dsimp only; (try simp only [World.size_more, World.size_alloc, World.size_setCell, World.size_drew, Array.size_append]); omega) _ | with_reducible refine Gr.drew ?_)))) (s17.at.up (Gr.below (by repeat (first | (with_reducible exact Gr.refl _) | with_reducible refine Gr.alloc ?_ _ | with_reducible refine Gr.more ?_ _ _ | with_reducible refine Gr.setCell ?_ (by dsimp only; (try simp only [World.size_more, World.size_alloc, World.size_setCell, World.size_drew, Array.size_append]); omega) _ | with_reducible refine Gr.drew ?_))))).mono ?_); rintro e w1 ⟨rfl, hb⟩; obtain ⟨os, n, rfl⟩ := Below.moreE hb; clear hb)
  refine bodyPost_ret (v := .bool true) (by simp [results, Try.results8, go_sem]) rfl ⟨rfl, Gr.below (by repeat (first | (with_reducible exact hG) | with_reducible refine Gr.alloc ?_ _ | with_reducible refine Gr.more ?_ _ _ | with_reducible refine Gr.setCell ?_ (by dsimp only; (try simp only [World.size_more, World.size_alloc, World.size_setCell, World.size_drew, Array.size_append]); omega) _ | with_reducible refine Gr.drew ?_))⟩

set_option maxRecDepth 100000 in
set_option maxHeartbeats 16000000 in
theorem apart_ff (w : World) (P : List Int) (p : Option Addr) (pc : Nat) (B : List UInt8) (q : Option Addr) (qc : Nat) (hS : SpIn 0 w.heap.size w P p B q qc) (a s : Int) (g : Bool) (v b t : Int) (h : Bool) (y : Int) {P1 P2 P3 P4 : List Int} {B1 B2 B3 B4 : List UInt8} {K1 A1 : Int} {K2 A2 : Int} (HC : CCheck P B 0) (HR : ∀ w, Calls Try.prog 45 #[tyV s g] w fun e w' => e = .returned (.int .i64 0) ∧ Below w.heap.size w w') (HR2 : ∀ w, Calls Try.prog 45 #[tyV t h] w fun e w' => e = .returned (.int .i64 0) ∧ Below w.heap.size w w') (HA : ∀ w, Calls Try.prog 44 #[.agg #[.int .i64 a, .int .i64 s, .bool g, .int .i64 v], .agg #[.int .i64 b, .int .i64 t, .bool h, .int .i64 y]] w fun e w' => e = .returned (.bool true) ∧ Below w.heap.size w w') (H1 : CStore P B a s g v P1 B1 K1 A1 0) (H2 : CStore P B b t h y P2 B2 K2 A2 0) (H3 : CStore P B b t h y P3 B3 K2 A2 0) (H4 : CStore P B a s g v P4 B4 K1 A1 0) (HS : CSame P B P B true) (hk1 : (K1 != 0) = true) (hk2 : (K2 != 0) = true) : Calls Try.prog 8 #[spV p P.length pc q B.length qc, .agg #[.int .i64 a, .int .i64 s, .bool g, .int .i64 v], .agg #[.int .i64 b, .int .i64 t, .bool h, .int .i64 y]] w fun e w' => e = .returned (.bool true) ∧ Below w.heap.size w w' := by
  go_enter Try.func8, Try.ntmps8
  go_upto_region 1 with fail
  refine apart_r1 msane_any ?_
  intro _ W1 g1
  have h3 : SpBx 0 W1 (w.heap.size) P B := SpBx.up g1 ⟨p, pc, q, qc, Bx.mk2 (by go_simp) (by go_simp) (by go_simp) (by go_simp), (hS.up (by repeat (first | (with_reducible exact Gr.refl _) | with_reducible refine Gr.alloc ?_ _ | with_reducible refine Gr.more ?_ _ _ | with_reducible refine Gr.setCell ?_ (by dsimp only; (try simp only [World.size_more, World.size_alloc, World.size_setCell, World.size_drew, Array.size_append]); omega) _ | with_reducible refine Gr.drew ?_))).mono (by (try simp only [World.size_more, World.size_alloc, World.size_setCell, World.size_drew, Array.size_append]); omega) (by (try simp only [World.size_more, World.size_alloc, World.size_setCell, World.size_drew, Array.size_append]); omega)⟩
  have h4 : Bx W1 (w.heap.size + 1) [.int .i64 a, .int .i64 s, .bool g, .int .i64 v] := Bx.up g1 (Bx.mk4 (by go_simp) (by go_simp) (by go_simp) (by go_simp) (by go_simp) (by go_simp) (by go_simp) (by go_simp))
  have h5 : Bx W1 (w.heap.size + 1 + 1) [.int .i64 b, .int .i64 t, .bool h, .int .i64 y] := Bx.up g1 (Bx.mk4 (by go_simp) (by go_simp) (by go_simp) (by go_simp) (by go_simp) (by go_simp) (by go_simp) (by go_simp))
  have hG : Gr w.heap.size w W1 := Gr.trans (by repeat (first | (with_reducible exact Gr.refl _) | with_reducible refine Gr.alloc ?_ _ | with_reducible refine Gr.more ?_ _ _ | with_reducible refine Gr.setCell ?_ (by dsimp only; (try simp only [World.size_more, World.size_alloc, World.size_setCell, World.size_drew, Array.size_append]); omega) _ | with_reducible refine Gr.drew ?_)) g1
  clear g1
  go_upto_region 2 with fail
  refine apart_r2 h3 h4 h5 HC HR HR2 HA ?_
  intro _ _ _ _ _ _ _ _ _ _ _ _ _ _ _ _ _ _ _ _ _ _ _ _  W2 g2
  replace h3 := SpBx.up g2 h3
  replace h4 := Bx.up g2 h4
  replace h5 := Bx.up g2 h5
  replace hG := Gr.trans hG g2
  clear g2
  have o5 := h5.lt
  go_upto_region 4 with fail
  refine apart_r4 h3 h4 H1 ?_
  intro _ _ _ _ _ _ _ _ _ _ _ _ b8 b9 W3 g3 ge8 n8 ge9 lt9 n9
  replace h3 := SpBx.up g3 h3
  replace h4 := Bx.up g3 h4
  replace h5 := Bx.up g3 h5
  have h8 := n8
  clear n8
  have h9 := n9
  clear n9
  replace hG := Gr.trans hG g3
  clear g3
  have o8 := h8.lt
  have o9 := h9.lt
  go_upto_region 5 with fail
  refine apart_r5 h3 h5 H2 ?_
  intro _ _ _ _ _ _ _ _ _ _ _ _ b11 b12 W4 g4 ge11 n11 ge12 lt12 n12
  replace h3 := SpBx.up g4 h3
  replace h4 := Bx.up g4 h4
  replace h5 := Bx.up g4 h5
  replace h8 := SpBx.up g4 h8
  replace h9 := Bx.up g4 h9
  have h11 := n11
  clear n11
  have h12 := n12
  clear n12
  replace hG := Gr.trans hG g4
  clear g4
  have c9_0 := h9.get 0 _ rfl
  have c9_1 := h9.get 1 _ rfl
  have c12_0 := h12.get 0 _ rfl
  have c12_1 := h12.get 1 _ rfl
  go_upto_region 9 with fail
  clear c9_0 c9_1
  clear c12_0 c12_1
  go_upto_region 9 with fail
  refine apart_r9 h3 h8 (by omega) ?_
  intro _  W5 g5 n8
  replace h3 := h3.caught g5 (by omega) (by omega)
  replace h4 := h4.caught g5 (by omega)
  replace h5 := h5.caught g5 (by omega)
  replace h8 := n8
  clear n8
  replace h9 := h9.caught g5 (by omega)
  replace h11 := h11.caught g5 (by omega) (by omega)
  replace h12 := h12.caught g5 (by omega)
  replace hG := Gr.caught hG g5 (by omega)
  clear g5
  have c12_0 := h12.get 0 _ rfl
  have c12_1 := h12.get 1 _ rfl
  go_upto_region 11 with fail
  clear c12_0 c12_1
  go_upto_region 11 with fail
  refine apart_r11 h3 h11 (by omega) ?_
  intro _  W6 g6 n11
  replace h3 := h3.caught g6 (by omega) (by omega)
  replace h4 := h4.caught g6 (by omega)
  replace h5 := h5.caught g6 (by omega)
  replace h8 := h8.caught g6 (by omega) (by omega)
  replace h9 := h9.caught g6 (by omega)
  replace h11 := n11
  clear n11
  replace h12 := h12.caught g6 (by omega)
  replace hG := Gr.caught hG g6 (by omega)
  clear g6
  have o11 := h11.lt
  have o12 := h12.lt
  go_upto_region 12 with fail
  refine apart_r12 h8 h5 H3 ?_
  intro _ _ _ _ _ _ _ _ _ _ _ _ b14 b15 W7 g7 ge14 n14 ge15 lt15 n15
  replace h3 := SpBx.up g7 h3
  replace h4 := Bx.up g7 h4
  replace h5 := Bx.up g7 h5
  replace h8 := SpBx.up g7 h8
  replace h9 := Bx.up g7 h9
  replace h11 := SpBx.up g7 h11
  replace h12 := Bx.up g7 h12
  have h14 := n14
  clear n14
  have h15 := n15
  clear n15
  replace hG := Gr.trans hG g7
  clear g7
  have o14 := h14.lt
  have o15 := h15.lt
  go_upto_region 13 with fail
  refine apart_r13 h11 h4 H4 ?_
  intro _ _ _ _ _ _ _ _ _ _ _ _ b17 b18 W8 g8 ge17 n17 ge18 lt18 n18
  replace h3 := SpBx.up g8 h3
  replace h4 := Bx.up g8 h4
  replace h5 := Bx.up g8 h5
  replace h8 := SpBx.up g8 h8
  replace h9 := Bx.up g8 h9
  replace h11 := SpBx.up g8 h11
  replace h12 := Bx.up g8 h12
  replace h14 := SpBx.up g8 h14
  replace h15 := Bx.up g8 h15
  have h17 := n17
  clear n17
  have h18 := n18
  clear n18
  replace hG := Gr.trans hG g8
  clear g8
  have c12_0 := h12.get 0 _ rfl
  have c12_1 := h12.get 1 _ rfl
  go_upto_region 15 with fail
  clear c12_0 c12_1
  go_upto_region 15 with fail
  refine apart_r15 h8 h14 (by omega) ?_
  intro _  W9 g9 n14
  replace h3 := h3.caught g9 (by omega) (by omega)
  replace h4 := h4.caught g9 (by omega)
  replace h5 := h5.caught g9 (by omega)
  replace h8 := h8.caught g9 (by omega) (by omega)
  replace h9 := h9.caught g9 (by omega)
  replace h11 := h11.caught g9 (by omega) (by omega)
  replace h12 := h12.caught g9 (by omega)
  replace h14 := n14
  clear n14
  replace h15 := h15.caught g9 (by omega)
  replace h17 := h17.caught g9 (by omega) (by omega)
  replace h18 := h18.caught g9 (by omega)
  replace hG := Gr.caught hG g9 (by omega)
  clear g9
  have c9_0 := h9.get 0 _ rfl
  have c9_1 := h9.get 1 _ rfl
  go_upto_region 17 with fail
  clear c9_0 c9_1
  go_upto_region 17 with fail
  refine apart_r17 h11 h17 (by omega) ?_
  intro _  W10 g10 n17
  replace h3 := h3.caught g10 (by omega) (by omega)
  replace h4 := h4.caught g10 (by omega)
  replace h5 := h5.caught g10 (by omega)
  replace h8 := h8.caught g10 (by omega) (by omega)
  replace h9 := h9.caught g10 (by omega)
  replace h11 := h11.caught g10 (by omega) (by omega)
  replace h12 := h12.caught g10 (by omega)
  replace h14 := h14.caught g10 (by omega) (by omega)
  replace h15 := h15.caught g10 (by omega)
  replace h17 := n17
  clear n17
  replace h18 := h18.caught g10 (by omega)
  replace hG := Gr.caught hG g10 (by omega)
  clear g10
  have c9_0 := h9.get 0 _ rfl
  have c9_1 := h9.get 1 _ rfl
  have c12_0 := h12.get 0 _ rfl
  have c12_1 := h12.get 1 _ rfl
  have c15_0 := h15.get 0 _ rfl
  have c15_1 := h15.get 1 _ rfl
  have c18_0 := h18.get 0 _ rfl
  have c18_1 := h18.get 1 _ rfl
  obtain ⟨p14, pc14, q14, qc14, x14, s14⟩ := h14
  have c14_0 := x14.get 0 _ rfl
  have c14_1 := x14.get 1 _ rfl
  obtain ⟨p17, pc17, q17, qc17, x17, s17⟩ := h17
  have c17_0 := x17.get 0 _ rfl
  have c17_1 := x17.get 1 _ rfl
  go_wp2_with (go_at_call 24; (refine (HS _ _ _ _ _ _ _ _ _ (s14.at.up (Gr.below (by repeat (first | (with_reducible exact Gr.refl _) | with_reducible refine Gr.alloc ?_ _ | with_reducible refine Gr.more ?_ _ _ | with_reducible refine Gr.setCell ?_ (by dsimp only; (try simp only [World.size_more, World.size_alloc, World.size_setCell, World.size_drew, Array.size_append]); omega) _ | with_reducible refine Gr.drew ?_)))) (s17.at.up (Gr.below (by repeat (first | (with_reducible exact Gr.refl _) | with_reducible refine Gr.alloc ?_ _ | with_reducible refine Gr.more ?_ _ _ | with_reducible refine Gr.setCell ?_ (by dsimp only; (try simp only [World.size_more, World.size_alloc, World.size_setCell, World.size_drew, Array.size_append]); omega) _ | with_reducible refine Gr.drew ?_))))).mono ?_); rintro e w1 ⟨rfl, hb⟩; obtain ⟨os, n, rfl⟩ := Below.moreE hb; clear hb)
  refine bodyPost_ret (v := .bool true) (by simp [results, Try.results8, go_sem]) rfl ⟨rfl, Gr.below (by repeat (first | (with_reducible exact hG) | with_reducible refine Gr.alloc ?_ _ | with_reducible refine Gr.more ?_ _ _ | with_reducible refine Gr.setCell ?_ (by dsimp only; (try simp only [World.size_more, World.size_alloc, World.size_setCell, World.size_drew, Array.size_append]); omega) _ | with_reducible refine Gr.drew ?_))⟩

theorem cSame_self {P : List Int} (B : List UInt8) (l : P.length ≤ 4096) : CSame P B P B true := by
  have h := cSame (P := P) B (P2 := P) B l l
  rwa [show (P == P && B == B) = true by simp] at h
theorem apB_t {a s b t : Int} (h : apB a s b t = true) : 0 ≤ a ∧ 0 ≤ b ∧ a < 1099511627776 ∧ b < 1099511627776 ∧ (wrap64 (a + s) ≤ b ∨ wrap64 (b + t) ≤ a) := by
  simpa [apB] using h
theorem law_apart (w : World) (P : List Int) (p : Option Addr) (pc : Nat) (B : List UInt8) (q : Option Addr) (qc : Nat) (hS : SpIn 0 w.heap.size w P p B q qc) (a s : Int) (g : Bool) (v : Int) (ia : I64 a) (_ : I64 s) (_ : I64 v) (b t : Int) (h : Bool) (y : Int) (ib : I64 b) (_ : I64 t) (_ : I64 y) : Calls Try.prog 8 #[spV p P.length pc q B.length qc, .agg #[.int .i64 a, .int .i64 s, .bool g, .int .i64 v], .agg #[.int .i64 b, .int .i64 t, .bool h, .int .i64 y]] w fun e w' => e = .returned (.bool true) ∧ Below w.heap.size w w' := by
  cases hs : spB P B.length
  · exact apart_e1 w P p pc B q qc hS a s g v b t h y (by have h := cCheck P B; rwa [spE_bad hs] at h)
  have HC : CCheck P B 0 := by have h := cCheck P B; rwa [spE_ok hs] at h
  cases hv : validB s
  · exact apart_e2 w P p pc B q qc hS a s g v b t h y HC (fun w => by have h := rcheck_any s g w; rwa [eT_bad hv] at h)
  have HR : ∀ w, Calls Try.prog 45 #[tyV s g] w fun e w' => e = .returned (.int .i64 0) ∧ Below w.heap.size w w' := fun w => by have h := rcheck_any s g w; rwa [eT_ok hv] at h
  cases hv2 : validB t
  · exact apart_e3 w P p pc B q qc hS a s g v b t h y HC HR (fun w => by have h := rcheck_any t h w; rwa [eT_bad hv2] at h)
  have HR2 : ∀ w, Calls Try.prog 45 #[tyV t h] w fun e w' => e = .returned (.int .i64 0) ∧ Below w.heap.size w w' := fun w => by have h := rcheck_any t h w; rwa [eT_ok hv2] at h
  cases hap : apB a s b t
  · exact apart_e4 w P p pc B q qc hS a s g v b t h y HC HR HR2 (fun w => by have h := apart_any a s g v b t h y w; rwa [hap] at h)
  have HA := fun w => apart_any a s g v b t h y w
  rw [hap] at HA
  obtain ⟨ha0, hb0, ha1, hb1, hd⟩ := apB_t hap
  have hl := spB_len hs
  have hl4 : P.length ≤ 4096 := by omega
  have n1 := valid_nat hv
  have n2 := valid_nat hv2
  have z1 : 0 < s.toNat ∧ s.toNat ≤ 8 := by rcases valid_cases hv with rfl | rfl | rfl | rfl <;> decide
  have z2 : 0 < t.toNat ∧ t.toNat ≤ 8 := by rcases valid_cases hv2 with rfl | rfl | rfl | rfl <;> decide
  have hsx : spB P (wrL B a (btL v s.toNat) s.toNat).length = true := by rw [wrL_len]; exact hs
  have hsy : spB P (wrL B b (btL y t.toNat) t.toNat).length = true := by rw [wrL_len]; exact hs
  by_cases f1 : fltK P 2 a s.toNat = 0
  · by_cases f2 : fltK P 2 b t.toNat = 0
    · have r1 := in_of_flt ia hl.1 (by omega) z1.1 f1
      have r2 := in_of_flt ib hl.1 (by omega) z2.1 f2
      have e1 : wrap64 (a + s) = a + s := by unfold wrap64; omega
      have e2 : wrap64 (b + t) = b + t := by unfold wrap64; omega
      rw [e1, e2] at hd
      have hc := wr_wr_apart (B := B) (a := a) (b := b) (bs := btL v s.toNat) (cs := btL y t.toNat) (n := s.toNat) (m := t.toNat) ha0 hb0 (by omega) (by omega) (by omega) (by omega)
      have HS := cSame_self (P := P) (wrL (wrL B a (btL v s.toNat) s.toNat) b (btL y t.toNat) t.toNat) hl4
      rw (config := {occs := .pos [2]}) [hc] at HS
      exact apart_oo w P p pc B q qc hS a s g v b t h y HC HR HR2 HA (cStore_ok hs a hv g v f1) (cStore_ok hs b hv2 h y f2) (cStore_ok hsx b hv2 h y f2) (cStore_ok hsy a hv g v f1) HS
    · exact apart_of w P p pc B q qc hS a s g v b t h y HC HR HR2 HA (cStore_ok hs a hv g v f1) (cStore_flt hs b hv2 h y f2) (cStore_flt hsx b hv2 h y f2) (cStore_ok hs a hv g v f1) (cSame_self _ hl4) (bne_iff_ne.2 f2)
  · by_cases f2 : fltK P 2 b t.toNat = 0
    · exact apart_fo w P p pc B q qc hS a s g v b t h y HC HR HR2 HA (cStore_flt hs a hv g v f1) (cStore_ok hs b hv2 h y f2) (cStore_ok hs b hv2 h y f2) (cStore_flt hsy a hv g v f1) (cSame_self _ hl4) (bne_iff_ne.2 f1)
    · exact apart_ff w P p pc B q qc hS a s g v b t h y HC HR HR2 HA (cStore_flt hs a hv g v f1) (cStore_flt hs b hv2 h y f2) (cStore_flt hs b hv2 h y f2) (cStore_flt hs a hv g v f1) (cSame_self _ hl4) (bne_iff_ne.2 f1) (bne_iff_ne.2 f2)
end Go.Proofs.Ytnapbpfofpaakaa

namespace Go.Proofs.Ytnapbpfofpaakaa
open Go.RowKit

set_option maxHeartbeats 2000000 in
theorem peek_bs (P : List Int) (p : Option Addr) (pc : Nat) (B : List UInt8) (q : Option Addr) (qc : Nat) (at0 : Int) (nn : Nat) (w : World) (hS : SpAt w P p B q qc) (hs : spB P B.length = true) (hn : nn ≤ 2048) (hf : fltK P 0 at0 nn = 0) (hpos : 0 < nn) :
    Calls Try.prog 27 #[spV p P.length pc q B.length qc, .int .i64 at0, .int .i64 (nn : Int)] w fun e w' => ∃ gb vc, e = .returned (.tuple #[.slice (some ⟨gb, 0, none⟩) nn vc, ftV 0 0, .int .i64 0]) ∧ BS w' gb (rdL B at0 nn) ∧ Below w.heap.size w w' := by
  have h0 : ¬ (nn : Int) < 0 := by omega
  have h1 : ¬ (2048 : Int) < (nn : Int) := by omega
  have HL := Lib.hid (spB_len hs)
  have HO : Hid (nn ≤ 2048) := Lib.hid (by omega)
  have HS := Lib.hid hS
  clear hn
  have R : ∀ W, Below w.heap.size w W → Calls Try.prog 56 #[spV p P.length pc q B.length qc] W fun e w' => ∃ q2 c PB, e = .returned (spV p P.length pc q2 P.length c) ∧ (q2 = some ⟨PB, 0, none⟩ ∨ P = []) ∧ SeqAt w' (some ⟨PB, 0, none⟩) (bV B) ∧ PB < w'.heap.size ∧ Below W.heap.size W w' := fun W hW => memoryOf_r P p pc B q qc W HL.out.1 HL.out.2 (hS.up hW)
  have R2 : ∀ q2 c2 PB W, Below w.heap.size w W → (q2 = some ⟨PB, 0, none⟩ ∨ P = []) → SeqAt W (some ⟨PB, 0, none⟩) (bV B) → PB < W.heap.size → Calls Try.prog 57 #[spV p P.length pc q2 P.length c2, .int .i64 at0, .int .i64 (nn : Int), .int .i64 0] W fun e w' => ∃ gb vc, e = .returned (.tuple #[.slice (some ⟨gb, 0, none⟩) nn vc, ftV 0 0]) ∧ W.heap.size ≤ gb ∧ gb < w'.heap.size ∧ BS w' gb (rdL B at0 nn) ∧ Below W.heap.size W w' := fun q2 c2 PB W hW h1 h2 h3 => rd_bs P p pc B q2 c2 PB at0 nn 0 W HL.out HO.out (HS.out.up hW).perm (HS.out.up hW).old h1 h2 h3 hf hpos
  clear hf
  go_enter Try.func27, Try.ntmps27
  go_wp2_with first | (go_at_call 55; (refine (checkLength_ok P p pc q B.length qc _ _ _ (hS.perm.up (Gr.below (by repeat (first | (with_reducible exact Gr.refl _) | with_reducible refine Gr.alloc ?_ _ | with_reducible refine Gr.more ?_ _ _ | with_reducible refine Gr.setCell ?_ (by dsimp only; omega) _ | with_reducible refine Gr.drew ?_)))) hs h0 h1).mono ?_); rintro e w1 ⟨rfl, hb⟩; obtain ⟨oc, zc, rfl⟩ := Below.moreE hb; clear hb) | (go_at_call 56; (refine (R _ (Gr.below (by repeat (first | (with_reducible exact Gr.refl _) | with_reducible refine Gr.alloc ?_ _ | with_reducible refine Gr.more ?_ _ _ | with_reducible refine Gr.setCell ?_ (by dsimp only; omega) _ | with_reducible refine Gr.drew ?_)))).mono ?_); rintro e w1 ⟨q2, c2, PB, rfl, hq2, hs2, hlt2, hb⟩; obtain ⟨om, zm, rfl⟩ := Below.moreE hb; clear hb; simp only [World.more_more, Array.append_assoc] at hs2 hlt2) | (go_at_call 57; (refine (R2 _ _ _ _ (Gr.below (by repeat (first | (with_reducible exact Gr.refl _) | with_reducible refine Gr.alloc ?_ _ | with_reducible refine Gr.more ?_ _ _ | with_reducible refine Gr.setCell ?_ (by dsimp only; omega) _ | with_reducible refine Gr.drew ?_))) hq2 hs2 hlt2).mono ?_); rintro e w1 ⟨gb, vc, rfl, hge, hgl, hv, hb⟩; obtain ⟨od, zd, rfl⟩ := Below.moreE hb; clear hb; simp only [World.more_more, Array.append_assoc, World.size_more, World.size_alloc] at hv hge hgl)
  refine bodyPost_ret (v := .tuple #[.slice (some ⟨gb, 0, none⟩) nn vc, ftV 0 0, .int .i64 0]) (by simp [results, Try.results27, go_sem, *]) rfl ⟨gb, vc, rfl, by repeat (first | (with_reducible exact hv) | with_reducible refine BS.al ?_ _ | with_reducible refine BS.mo ?_ _ _ | with_reducible refine BS.st ?_ (by dsimp only; (try simp only [World.size_more, World.size_alloc, World.size_setCell, World.size_drew, Array.size_append] at *); omega) _ | with_reducible refine BS.dr ?_), (Gr.below (by repeat (first | (with_reducible exact Gr.refl _) | with_reducible refine Gr.alloc ?_ _ | with_reducible refine Gr.more ?_ _ _ | with_reducible refine Gr.setCell ?_ (by dsimp only; omega) _ | with_reducible refine Gr.drew ?_)))⟩

/-- A value that is a slice of bytes which begins a block. -/
def BsVal (W : World) (v : Value) (X : List UInt8) : Prop := ∃ gb vc, v = .slice (some ⟨gb, 0, none⟩) X.length vc ∧ BS W gb X
theorem BsVal.up {W W' : World} (g : Gr W.heap.size W W') {v : Value} {X : List UInt8} (h : BsVal W v X) : BsVal W' v X := by
  obtain ⟨gb, vc, h1, h2⟩ := h
  exact ⟨gb, vc, h1, h2.up g⟩
def CPeekB (P : List Int) (B : List UInt8) (at0 n : Int) (X : List UInt8) (K A E : Int) : Prop := ∀ w p pc q qc, SpAt w P p B q qc → Calls Try.prog 27 #[spV p P.length pc q B.length qc, .int .i64 at0, .int .i64 n] w fun e w' => ∃ v, e = .returned (.tuple #[v, ftV K A, .int .i64 E]) ∧ BsVal w' v X ∧ Below w.heap.size w w'
theorem cPeek_bs {P : List Int} {B : List UInt8} (hs : spB P B.length = true) (at0 : Int) {n : Int} {k : Nat} (hk : n = k) (hn : k ≤ 2048) (hp : 0 < k) (hf : fltK P 0 at0 k = 0) : CPeekB P B at0 n (rdL B at0 k) 0 0 0 := fun w p pc q qc h => by
  subst hk
  exact (peek_bs P p pc B q qc at0 k w h hs hn hf hp).mono fun _ w' ⟨gb, vc, h1, h2, h3⟩ => ⟨_, h1, ⟨gb, vc, by rw [rdL_len], h2⟩, h3⟩
/-- A value that is a list of differences. -/
def DfVal (W : World) (v : Value) (B B2 : List UInt8) (D : List Nat) : Prop := ∃ p c, v = .slice p D.length c ∧ (D = [] ∨ ∃ b, p = some ⟨b, 0, none⟩ ∧ ∀ j (h : j < D.length), W.cell? ⟨b, j * 3, none⟩ = some (.int .i64 (D[j] : Int)) ∧ W.cell? ⟨b, j * 3 + 1, none⟩ = some (.int .u8 ((B.getD D[j] 0).toNat : Int)) ∧ W.cell? ⟨b, j * 3 + 2, none⟩ = some (.int .u8 ((B2.getD D[j] 0).toNat : Int)))
theorem DfVal.up {W W' : World} (g : Gr W.heap.size W W') {v : Value} {B B2 : List UInt8} {D : List Nat} (h : DfVal W v B B2 D) : DfVal W' v B B2 D := by
  obtain ⟨p, c, h1, h2⟩ := h
  refine ⟨p, c, h1, ?_⟩
  rcases h2 with h2 | ⟨b, e, h2⟩
  · exact .inl h2
  · refine .inr ⟨b, e, fun j hj => ?_⟩
    obtain ⟨a0, a1, a2⟩ := h2 j hj
    exact ⟨grC g a0, grC g a1, grC g a2⟩
theorem flat3 {α β : Type} (f : α → List β) (hf : ∀ x, (f x).length = 3) : ∀ (D : List α) (j i : Nat) (h : j < D.length), i < 3 → (D.flatMap f)[3 * j + i]? = (f D[j])[i]?
  | [], _, _, h, _ => by simp at h
  | x :: D, 0, i, _, hi => by
    rw [List.flatMap_cons, Nat.mul_zero, Nat.zero_add, List.getElem?_append_left (by rw [hf]; exact hi)]
    rfl
  | x :: D, j + 1, i, h, hi => by
    rw [List.flatMap_cons, List.getElem?_append_right (by rw [hf]; omega), hf, show 3 * (j + 1) + i - 3 = 3 * j + i by omega, flat3 f hf D j i (by simpa using h) hi]
    rfl
theorem df_of_own {w : World} {base : Nat} {e : TypeId} {v : Value} {B B2 : List UInt8} {k : Nat} (h : w.ownsRow base e 3 v (dfs B B2 k).length (dfC B B2 k)) : DfVal w v B B2 (dfs B B2 k) := by
  rcases h.2 with ⟨rfl, hz⟩ | ⟨g, cap, cur, rfl, h2⟩
  · exact ⟨none, 0, by rw [hz], .inl (List.eq_nil_of_length_eq_zero hz)⟩
  · refine ⟨_, cap, rfl, .inr ⟨g, rfl, fun j hj => ?_⟩⟩
    have c := fun i (hi : i < 3) u (hu : (chC B B2 (dfs B B2 k)[j])[i]? = some u) => by
      have := h.cells (g := g) rfl (3 * j + i) u (by unfold dfC; rw [flat3 (chC B B2) (fun _ => rfl) _ _ _ hj hi]; exact hu)
      rwa [Addr.add_lit, Nat.zero_add, Nat.mul_comm 3 j] at this
    exact ⟨c 0 (by decide) _ rfl, c 1 (by decide) _ rfl, c 2 (by decide) _ rfl⟩
def CDiff (P : List Int) (B : List UInt8) (P2 : List Int) (B2 : List UInt8) (D : List Nat) (E : Int) : Prop := ∀ w p pc q qc p2 pc2 q2 qc2, SpAt w P p B q qc → SpAt w P2 p2 B2 q2 qc2 → Calls Try.prog 39 #[spV p P.length pc q B.length qc, spV p2 P2.length pc2 q2 B2.length qc2] w fun e w' => ∃ v, e = .returned (.tuple #[v, .int .i64 E]) ∧ DfVal w' v B B2 D ∧ Below w.heap.size w w'
theorem dfNone (W : World) (B B2 : List UInt8) : DfVal W (.slice none 0 0) B B2 [] := ⟨none, 0, rfl, .inl rfl⟩
theorem cDiff_bad {P : List Int} {B : List UInt8} {P2 : List Int} {B2 : List UInt8} (hs : (spB P B.length && spB P2 B2.length) = false) : CDiff P B P2 B2 [] 30 := fun w p pc q qc p2 pc2 q2 qc2 h h2 =>
  (diff_bad P p pc q B.length qc P2 p2 pc2 q2 B2.length qc2 w h.perm h2.perm hs).mono fun _ w' ⟨h1, h2⟩ => ⟨_, h1, dfNone _ _ _, h2⟩
theorem cDiff_arg {P : List Int} {B : List UInt8} {P2 : List Int} {B2 : List UInt8} (hs : spB P B.length = true) (hs2 : spB P2 B2.length = true) (hne : P ≠ P2) : CDiff P B P2 B2 [] 1 := fun w p pc q qc p2 pc2 q2 qc2 h h2 =>
  (diff_arg P p pc q B.length qc P2 p2 pc2 q2 B2.length qc2 w h.perm h2.perm hs hs2 (beq_eq_false_iff_ne.2 hne)).mono fun _ w' ⟨h1, h2⟩ => ⟨_, h1, dfNone _ _ _, h2⟩
theorem cDiff_ok {P : List Int} {B B2 : List UInt8} (hs : spB P B.length = true) (hs2 : spB P B2.length = true) : CDiff P B P B2 (dfs B B2 B.length) 0 := fun w p pc q qc p2 pc2 q2 qc2 h h2 =>
  (diff_ok P p pc B q qc p2 pc2 B2 q2 qc2 w h.perm h2.perm h.byte h2.byte hs hs2).mono fun _ w' ⟨v, h1, h2, h3⟩ => ⟨v, h1, df_of_own h2, h3⟩
theorem dfs_mem {B B2 : List UInt8} {k j : Nat} : j ∈ dfs B B2 k ↔ j < k ∧ B.getD j 0 ≠ B2.getD j 0 := by
  unfold dfs
  rw [List.mem_filter, List.mem_range]
  simp only [bne_iff_ne]
end Go.Proofs.Ytnapbpfofpaakaa
