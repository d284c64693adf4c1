/-
  The law BitsTypes: its regions, and the law.
-/
import Derived.Test.YtbdkacfddbiclaaDoorUc
import Derived.Test.YtbdkacfddbiclaaDoorLf
namespace Go.Proofs.YtbdkacfddbiclaaDoor
open Go.RowKit

/-- Region 2 of law.BitsTypes. -/
noncomputable def types_r2_code : Code := ((Tryd.f3.body).bind (Code.findR 2)).getD .skip
set_option maxRecDepth 100000 in
set_option maxHeartbeats 4000000 in
theorem types_r2 {Q : Exit → Act → World → Prop} {u0 u1 u2 u4 u5 u6 u7 u8 u9 u10 u11 u12 u13 u14 u15 u16 u17 u18 u19 u20 u21 u22 u23 u24 u25 u26 u27 u28 u29 u30 u31 u32 u33 u34 u35 u36 u37 u38 u39 u40 u41 u42 u43 u44 u45 u46 u47 u48 u49 u50 u51 u52 u53 u54 u55 u56 u57 u58 u59 u60 u61 u62 u63 u64 u65 u66 u67 u68 u69 u70 u71 u72 u73 u74 u75 u76 u77 u78 u79 u80 u81 u82 u83 u84 u85 u86 u87 u88 u89 u90 u91 u92 u93 u94 u95 u96 u97 u98 u99 u100 u101 u102 u103 u104 u105 u106 u107 u108 u109 u110 u111 u112 u113 u114 u115 u116 u117 u118 u119 u120 u121 u122 u123 u124 u125 u126 u127 u128 u129 u130 u131 u132 u133 u134 u135 u136 u137 u138 u139 u140 u141 u142 u143 u144 u145 u146 u147 u148 u149 u150 u151 u152 u153 : Value} {W : World} {a : Nat} {s x y e : Int} {g : Bool} (ha : BoxT W a s g) (HX : RetR 13 #[tyV s g] x y e) (hQ : ∀ (v32 v33 v31 v34 v35 v36 : Value) (W' : World), Gr W.heap.size W W' → Q .normal ⟨#[u0, u1, u2, .pointer (some ⟨a, 0, none⟩), u4, u5, u6, u7, .int .i64 x, .int .i64 y, .int .i64 e, u11, u12, u13, u14, u15, u16, u17, u18, u19, u20, u21, u22, u23, u24, u25, u26, u27, u28, u29, u30, v31, v32, v33, v34, v35, v36, u37, u38, u39, u40, u41, u42, u43, u44, u45, u46, u47, u48, u49, u50, u51, u52, u53, u54, u55, u56, u57, u58, u59, u60, u61, u62, u63, u64, u65, u66, u67, u68, u69, u70, u71, u72, u73, u74, u75, u76, u77, u78, u79, u80, u81, u82, u83, u84, u85, u86, u87, u88, u89, u90, u91, u92, u93, u94, u95, u96, u97, u98, u99, u100, u101, u102, u103, u104, u105, u106, u107, u108, u109, u110, u111, u112, u113, u114, u115, u116, u117, u118, u119, u120, u121, u122, u123, u124, u125, u126, u127, u128, u129, u130, u131, u132, u133, u134, u135, u136, u137, u138, u139, u140, u141, u142, u143, u144, u145, u146, u147, u148, u149, u150, u151, u152, u153], []⟩ W') : Code.wp Tryd.prog types_r2_code Q ⟨#[u0, u1, u2, .pointer (some ⟨a, 0, none⟩), u4, u5, u6, u7, u8, u9, u10, u11, u12, u13, u14, u15, u16, u17, u18, u19, u20, u21, u22, u23, u24, u25, u26, u27, u28, u29, u30, u31, u32, u33, u34, u35, u36, u37, u38, u39, u40, u41, u42, u43, u44, u45, u46, u47, u48, u49, u50, u51, u52, u53, u54, u55, u56, u57, u58, u59, u60, u61, u62, u63, u64, u65, u66, u67, u68, u69, u70, u71, u72, u73, u74, u75, u76, u77, u78, u79, u80, u81, u82, u83, u84, u85, u86, u87, u88, u89, u90, u91, u92, u93, u94, u95, u96, u97, u98, u99, u100, u101, u102, u103, u104, u105, u106, u107, u108, u109, u110, u111, u112, u113, u114, u115, u116, u117, u118, u119, u120, u121, u122, u123, u124, u125, u126, u127, u128, u129, u130, u131, u132, u133, u134, u135, u136, u137, u138, u139, u140, u141, u142, u143, u144, u145, u146, u147, u148, u149, u150, u151, u152, u153], []⟩ W := by
  obtain ⟨hax, hay⟩ := ha
  have zha := szc hax
  conv => arg 2; whnf
  go_wp2_with first | (go_at_call 13; (with_reducible refine (HX _).mono ?_); rintro e w1 ⟨rfl, hb⟩; obtain ⟨os, n, rfl⟩ := Below.moreE hb; clear hb)
  all_goals
    first | exact (by repeat (first | (with_reducible exact Gr.refl _) | with_reducible refine Gr.alloc ?_ _ | with_reducible refine Gr.more ?_ _ _ | with_reducible refine Gr.setCell ?_ (by dsimp only; omega) _ | with_reducible refine Gr.drew ?_)) | exact hQ _ _ _ _ _ _ _ (by repeat (first | (with_reducible exact Gr.refl _) | with_reducible refine Gr.alloc ?_ _ | with_reducible refine Gr.more ?_ _ _ | with_reducible refine Gr.setCell ?_ (by dsimp only; omega) _ | with_reducible refine Gr.drew ?_)) 

/-- Region 3 of law.BitsTypes. -/
noncomputable def types_r3_code : Code := ((Tryd.f3.body).bind (Code.findR 3)).getD .skip
set_option maxRecDepth 100000 in
set_option maxHeartbeats 4000000 in
theorem types_r3 {Q : Exit → Act → World → Prop} {u0 u1 u2 u4 u5 u6 u7 u8 u9 u10 u11 u12 u13 u14 u15 u16 u17 u18 u19 u20 u21 u22 u23 u24 u25 u26 u27 u28 u29 u30 u31 u32 u33 u34 u35 u36 u37 u38 u39 u40 u41 u42 u43 u44 u45 u46 u47 u48 u49 u50 u51 u52 u53 u54 u55 u56 u57 u58 u59 u60 u61 u62 u63 u64 u65 u66 u67 u68 u69 u70 u71 u72 u73 u74 u75 u76 u77 u78 u79 u80 u81 u82 u83 u84 u85 u86 u87 u88 u89 u90 u91 u92 u93 u94 u95 u96 u97 u98 u99 u100 u101 u102 u103 u104 u105 u106 u107 u108 u109 u110 u111 u112 u113 u114 u115 u116 u117 u118 u119 u120 u121 u122 u123 u124 u125 u126 u127 u128 u129 u130 u131 u132 u133 u134 u135 u136 u137 u138 u139 u140 u141 u142 u143 u144 u145 u146 u147 u148 u149 u150 u151 u152 u153 : Value} {W : World} {a : Nat} {s x y e : Int} {g : Bool} (ha : BoxT W a s g) (HX : RetR 14 #[tyV s g] x y e) (hQ : ∀ (v38 v39 v37 v40 v41 v42 : Value) (W' : World), Gr W.heap.size W W' → Q .normal ⟨#[u0, u1, u2, .pointer (some ⟨a, 0, none⟩), u4, u5, u6, u7, u8, u9, u10, .int .i64 x, .int .i64 y, .int .i64 e, u14, u15, u16, u17, u18, u19, u20, u21, u22, u23, u24, u25, u26, u27, u28, u29, u30, u31, u32, u33, u34, u35, u36, v37, v38, v39, v40, v41, v42, u43, u44, u45, u46, u47, u48, u49, u50, u51, u52, u53, u54, u55, u56, u57, u58, u59, u60, u61, u62, u63, u64, u65, u66, u67, u68, u69, u70, u71, u72, u73, u74, u75, u76, u77, u78, u79, u80, u81, u82, u83, u84, u85, u86, u87, u88, u89, u90, u91, u92, u93, u94, u95, u96, u97, u98, u99, u100, u101, u102, u103, u104, u105, u106, u107, u108, u109, u110, u111, u112, u113, u114, u115, u116, u117, u118, u119, u120, u121, u122, u123, u124, u125, u126, u127, u128, u129, u130, u131, u132, u133, u134, u135, u136, u137, u138, u139, u140, u141, u142, u143, u144, u145, u146, u147, u148, u149, u150, u151, u152, u153], []⟩ W') : Code.wp Tryd.prog types_r3_code Q ⟨#[u0, u1, u2, .pointer (some ⟨a, 0, none⟩), u4, u5, u6, u7, u8, u9, u10, u11, u12, u13, u14, u15, u16, u17, u18, u19, u20, u21, u22, u23, u24, u25, u26, u27, u28, u29, u30, u31, u32, u33, u34, u35, u36, u37, u38, u39, u40, u41, u42, u43, u44, u45, u46, u47, u48, u49, u50, u51, u52, u53, u54, u55, u56, u57, u58, u59, u60, u61, u62, u63, u64, u65, u66, u67, u68, u69, u70, u71, u72, u73, u74, u75, u76, u77, u78, u79, u80, u81, u82, u83, u84, u85, u86, u87, u88, u89, u90, u91, u92, u93, u94, u95, u96, u97, u98, u99, u100, u101, u102, u103, u104, u105, u106, u107, u108, u109, u110, u111, u112, u113, u114, u115, u116, u117, u118, u119, u120, u121, u122, u123, u124, u125, u126, u127, u128, u129, u130, u131, u132, u133, u134, u135, u136, u137, u138, u139, u140, u141, u142, u143, u144, u145, u146, u147, u148, u149, u150, u151, u152, u153], []⟩ W := by
  obtain ⟨hax, hay⟩ := ha
  have zha := szc hax
  conv => arg 2; whnf
  go_wp2_with first | (go_at_call 14; (with_reducible refine (HX _).mono ?_); rintro e w1 ⟨rfl, hb⟩; obtain ⟨os, n, rfl⟩ := Below.moreE hb; clear hb)
  all_goals
    first | exact (by repeat (first | (with_reducible exact Gr.refl _) | with_reducible refine Gr.alloc ?_ _ | with_reducible refine Gr.more ?_ _ _ | with_reducible refine Gr.setCell ?_ (by dsimp only; omega) _ | with_reducible refine Gr.drew ?_)) | exact hQ _ _ _ _ _ _ _ (by repeat (first | (with_reducible exact Gr.refl _) | with_reducible refine Gr.alloc ?_ _ | with_reducible refine Gr.more ?_ _ _ | with_reducible refine Gr.setCell ?_ (by dsimp only; omega) _ | with_reducible refine Gr.drew ?_)) 

/-- Region 4 of law.BitsTypes. -/
noncomputable def types_r4_code : Code := ((Tryd.f3.body).bind (Code.findR 4)).getD .skip
set_option maxRecDepth 100000 in
set_option maxHeartbeats 4000000 in
theorem types_r4 {Q : Exit → Act → World → Prop} {u0 u1 u2 u4 u5 u6 u7 u8 u9 u10 u11 u12 u13 u14 u15 u16 u17 u18 u19 u20 u21 u22 u23 u24 u25 u26 u27 u28 u29 u30 u31 u32 u33 u34 u35 u36 u37 u38 u39 u40 u41 u42 u43 u44 u45 u46 u47 u48 u49 u50 u51 u52 u53 u54 u55 u56 u57 u58 u59 u60 u61 u62 u63 u64 u65 u66 u67 u68 u69 u70 u71 u72 u73 u74 u75 u76 u77 u78 u79 u80 u81 u82 u83 u84 u85 u86 u87 u88 u89 u90 u91 u92 u93 u94 u95 u96 u97 u98 u99 u100 u101 u102 u103 u104 u105 u106 u107 u108 u109 u110 u111 u112 u113 u114 u115 u116 u117 u118 u119 u120 u121 u122 u123 u124 u125 u126 u127 u128 u129 u130 u131 u132 u133 u134 u135 u136 u137 u138 u139 u140 u141 u142 u143 u144 u145 u146 u147 u148 u149 u150 u151 u152 u153 : Value} {W : World} {a : Nat} {s S e : Int} {g G : Bool} (hp : PI W) (ha : BoxT W a s g) (HX : RetT 15 #[tyV s g] S G e) (hQ : ∀ (v44 v45 v43 v46 v47 : Value) (b14 : Nat) (W' : World), Gr W.heap.size W W' → W.heap.size ≤ b14 → b14 < W'.heap.size → W'.cell? ⟨b14, 0, none⟩ = some (.int .i64 S) → W'.cell? ⟨b14, 1, none⟩ = some (.bool G) → Q .normal ⟨#[u0, u1, u2, .pointer (some ⟨a, 0, none⟩), u4, u5, u6, u7, u8, u9, u10, u11, u12, u13, .pointer (some ⟨b14, 0, none⟩), .int .i64 e, u16, u17, u18, u19, u20, u21, u22, u23, u24, u25, u26, u27, u28, u29, u30, u31, u32, u33, u34, u35, u36, u37, u38, u39, u40, u41, u42, v43, v44, v45, v46, v47, u48, u49, u50, u51, u52, u53, u54, u55, u56, u57, u58, u59, u60, u61, u62, u63, u64, u65, u66, u67, u68, u69, u70, u71, u72, u73, u74, u75, u76, u77, u78, u79, u80, u81, u82, u83, u84, u85, u86, u87, u88, u89, u90, u91, u92, u93, u94, u95, u96, u97, u98, u99, u100, u101, u102, u103, u104, u105, u106, u107, u108, u109, u110, u111, u112, u113, u114, u115, u116, u117, u118, u119, u120, u121, u122, u123, u124, u125, u126, u127, u128, u129, u130, u131, u132, u133, u134, u135, u136, u137, u138, u139, u140, u141, u142, u143, u144, u145, u146, u147, u148, u149, u150, u151, u152, u153], []⟩ W') : Code.wp Tryd.prog types_r4_code Q ⟨#[u0, u1, u2, .pointer (some ⟨a, 0, none⟩), u4, u5, u6, u7, u8, u9, u10, u11, u12, u13, u14, u15, u16, u17, u18, u19, u20, u21, u22, u23, u24, u25, u26, u27, u28, u29, u30, u31, u32, u33, u34, u35, u36, u37, u38, u39, u40, u41, u42, u43, u44, u45, u46, u47, u48, u49, u50, u51, u52, u53, u54, u55, u56, u57, u58, u59, u60, u61, u62, u63, u64, u65, u66, u67, u68, u69, u70, u71, u72, u73, u74, u75, u76, u77, u78, u79, u80, u81, u82, u83, u84, u85, u86, u87, u88, u89, u90, u91, u92, u93, u94, u95, u96, u97, u98, u99, u100, u101, u102, u103, u104, u105, u106, u107, u108, u109, u110, u111, u112, u113, u114, u115, u116, u117, u118, u119, u120, u121, u122, u123, u124, u125, u126, u127, u128, u129, u130, u131, u132, u133, u134, u135, u136, u137, u138, u139, u140, u141, u142, u143, u144, u145, u146, u147, u148, u149, u150, u151, u152, u153], []⟩ W := by
  obtain ⟨p0, p1, hsz⟩ := hp
  obtain ⟨hax, hay⟩ := ha
  have zha := szc hax
  conv => arg 2; whnf
  go_wp2_with first | (go_at_call 15; (with_reducible refine (HX _ ?hpp).mono ?_); (try case hpp => exact ⟨by go_simp, by go_simp, by go_simp <;> omega⟩); rintro e w1 ⟨rfl, hb⟩; obtain ⟨os, n, rfl⟩ := Below.moreE hb; clear hb)
  all_goals
    exact hQ _ _ _ _ _ _ _ (by repeat (first | (with_reducible exact Gr.refl _) | with_reducible refine Gr.alloc ?_ _ | with_reducible refine Gr.more ?_ _ _ | with_reducible refine Gr.setCell ?_ (by dsimp only; omega) _ | with_reducible refine Gr.drew ?_)) (by (first | omega | (simp; done) | (simp; omega))) (by (first | omega | (simp; done) | (simp; omega))) (by go_simp) (by go_simp)

/-- Region 5 of law.BitsTypes. -/
noncomputable def types_r5_code : Code := ((Tryd.f3.body).bind (Code.findR 5)).getD .skip
set_option maxRecDepth 100000 in
set_option maxHeartbeats 4000000 in
theorem types_r5 {Q : Exit → Act → World → Prop} {u0 u1 u2 u4 u5 u6 u7 u8 u9 u10 u11 u12 u13 u14 u15 u16 u17 u18 u19 u20 u21 u22 u23 u24 u25 u26 u27 u28 u29 u30 u31 u32 u33 u34 u35 u36 u37 u38 u39 u40 u41 u42 u43 u44 u45 u46 u47 u48 u49 u50 u51 u52 u53 u54 u55 u56 u57 u58 u59 u60 u61 u62 u63 u64 u65 u66 u67 u68 u69 u70 u71 u72 u73 u74 u75 u76 u77 u78 u79 u80 u81 u82 u83 u84 u85 u86 u87 u88 u89 u90 u91 u92 u93 u94 u95 u96 u97 u98 u99 u100 u101 u102 u103 u104 u105 u106 u107 u108 u109 u110 u111 u112 u113 u114 u115 u116 u117 u118 u119 u120 u121 u122 u123 u124 u125 u126 u127 u128 u129 u130 u131 u132 u133 u134 u135 u136 u137 u138 u139 u140 u141 u142 u143 u144 u145 u146 u147 u148 u149 u150 u151 u152 u153 : Value} {W : World} {a : Nat} {s S e : Int} {g G : Bool} (hq : PR8 W) (ha : BoxT W a s g) (HX : QetT 16 #[tyV s g] S G e) (hQ : ∀ (v49 v50 v48 v51 v52 : Value) (b16 : Nat) (W' : World), Gr W.heap.size W W' → W.heap.size ≤ b16 → b16 < W'.heap.size → W'.cell? ⟨b16, 0, none⟩ = some (.int .i64 S) → W'.cell? ⟨b16, 1, none⟩ = some (.bool G) → Q .normal ⟨#[u0, u1, u2, .pointer (some ⟨a, 0, none⟩), u4, u5, u6, u7, u8, u9, u10, u11, u12, u13, u14, u15, .pointer (some ⟨b16, 0, none⟩), .int .i64 e, u18, u19, u20, u21, u22, u23, u24, u25, u26, u27, u28, u29, u30, u31, u32, u33, u34, u35, u36, u37, u38, u39, u40, u41, u42, u43, u44, u45, u46, u47, v48, v49, v50, v51, v52, u53, u54, u55, u56, u57, u58, u59, u60, u61, u62, u63, u64, u65, u66, u67, u68, u69, u70, u71, u72, u73, u74, u75, u76, u77, u78, u79, u80, u81, u82, u83, u84, u85, u86, u87, u88, u89, u90, u91, u92, u93, u94, u95, u96, u97, u98, u99, u100, u101, u102, u103, u104, u105, u106, u107, u108, u109, u110, u111, u112, u113, u114, u115, u116, u117, u118, u119, u120, u121, u122, u123, u124, u125, u126, u127, u128, u129, u130, u131, u132, u133, u134, u135, u136, u137, u138, u139, u140, u141, u142, u143, u144, u145, u146, u147, u148, u149, u150, u151, u152, u153], []⟩ W') : Code.wp Tryd.prog types_r5_code Q ⟨#[u0, u1, u2, .pointer (some ⟨a, 0, none⟩), u4, u5, u6, u7, u8, u9, u10, u11, u12, u13, u14, u15, u16, u17, u18, u19, u20, u21, u22, u23, u24, u25, u26, u27, u28, u29, u30, u31, u32, u33, u34, u35, u36, u37, u38, u39, u40, u41, u42, u43, u44, u45, u46, u47, u48, u49, u50, u51, u52, u53, u54, u55, u56, u57, u58, u59, u60, u61, u62, u63, u64, u65, u66, u67, u68, u69, u70, u71, u72, u73, u74, u75, u76, u77, u78, u79, u80, u81, u82, u83, u84, u85, u86, u87, u88, u89, u90, u91, u92, u93, u94, u95, u96, u97, u98, u99, u100, u101, u102, u103, u104, u105, u106, u107, u108, u109, u110, u111, u112, u113, u114, u115, u116, u117, u118, u119, u120, u121, u122, u123, u124, u125, u126, u127, u128, u129, u130, u131, u132, u133, u134, u135, u136, u137, u138, u139, u140, u141, u142, u143, u144, u145, u146, u147, u148, u149, u150, u151, u152, u153], []⟩ W := by
  obtain ⟨q0, q1, q2, q3, q4, q5, q6, q7⟩ := hq
  have zq := szc q0
  obtain ⟨hax, hay⟩ := ha
  have zha := szc hax
  conv => arg 2; whnf
  go_wp2_with first | (go_at_call 16; (with_reducible refine (HX _ ?hpp).mono ?_); (try case hpp => exact ⟨by go_simp, by go_simp, by go_simp, by go_simp, by go_simp, by go_simp, by go_simp, by go_simp⟩); rintro e w1 ⟨rfl, hb⟩; obtain ⟨os, n, rfl⟩ := Below.moreE hb; clear hb)
  all_goals
    exact hQ _ _ _ _ _ _ _ (by repeat (first | (with_reducible exact Gr.refl _) | with_reducible refine Gr.alloc ?_ _ | with_reducible refine Gr.more ?_ _ _ | with_reducible refine Gr.setCell ?_ (by dsimp only; omega) _ | with_reducible refine Gr.drew ?_)) (by (first | omega | (simp; done) | (simp; omega))) (by (first | omega | (simp; done) | (simp; omega))) (by go_simp) (by go_simp)

/-- Region 6 of law.BitsTypes. -/
noncomputable def types_r6_code : Code := ((Tryd.f3.body).bind (Code.findR 6)).getD .skip
set_option maxRecDepth 100000 in
set_option maxHeartbeats 4000000 in
theorem types_r6 {Q : Exit → Act → World → Prop} {u0 u1 u2 u5 u6 u7 u8 u9 u10 u11 u12 u13 u14 u15 u16 u17 u18 u19 u20 u21 u22 u23 u24 u25 u26 u27 u28 u29 u30 u31 u32 u33 u34 u35 u36 u37 u38 u39 u40 u41 u42 u43 u44 u45 u46 u47 u48 u49 u50 u51 u52 u53 u54 u55 u56 u57 u58 u59 u60 u61 u62 u63 u64 u65 u66 u67 u68 u69 u70 u71 u72 u73 u74 u75 u76 u77 u78 u79 u80 u81 u82 u83 u84 u85 u86 u87 u88 u89 u90 u91 u92 u93 u94 u95 u96 u97 u98 u99 u100 u101 u102 u103 u104 u105 u106 u107 u108 u109 u110 u111 u112 u113 u114 u115 u116 u117 u118 u119 u120 u121 u122 u123 u124 u125 u126 u127 u128 u129 u130 u131 u132 u133 u134 u135 u136 u137 u138 u139 u140 u141 u142 u143 u144 u145 u146 u147 u148 u149 u150 u151 u152 u153 : Value} {W : World} {a b : Nat} {s t S e : Int} {g d G : Bool} (hp : PI W) (ha : BoxT W a s g) (hb : BoxT W b t d) (HX : RetT 17 #[tyV s g, tyV t d] S G e) (hQ : ∀ (v54 v55 v56 v53 v57 v58 : Value) (b18 : Nat) (W' : World), Gr W.heap.size W W' → W.heap.size ≤ b18 → b18 < W'.heap.size → W'.cell? ⟨b18, 0, none⟩ = some (.int .i64 S) → W'.cell? ⟨b18, 1, none⟩ = some (.bool G) → Q .normal ⟨#[u0, u1, u2, .pointer (some ⟨a, 0, none⟩), .pointer (some ⟨b, 0, none⟩), u5, u6, u7, u8, u9, u10, u11, u12, u13, u14, u15, u16, u17, .pointer (some ⟨b18, 0, none⟩), .int .i64 e, u20, u21, u22, u23, u24, u25, u26, u27, u28, u29, u30, u31, u32, u33, u34, u35, u36, u37, u38, u39, u40, u41, u42, u43, u44, u45, u46, u47, u48, u49, u50, u51, u52, v53, v54, v55, v56, v57, v58, u59, u60, u61, u62, u63, u64, u65, u66, u67, u68, u69, u70, u71, u72, u73, u74, u75, u76, u77, u78, u79, u80, u81, u82, u83, u84, u85, u86, u87, u88, u89, u90, u91, u92, u93, u94, u95, u96, u97, u98, u99, u100, u101, u102, u103, u104, u105, u106, u107, u108, u109, u110, u111, u112, u113, u114, u115, u116, u117, u118, u119, u120, u121, u122, u123, u124, u125, u126, u127, u128, u129, u130, u131, u132, u133, u134, u135, u136, u137, u138, u139, u140, u141, u142, u143, u144, u145, u146, u147, u148, u149, u150, u151, u152, u153], []⟩ W') : Code.wp Tryd.prog types_r6_code Q ⟨#[u0, u1, u2, .pointer (some ⟨a, 0, none⟩), .pointer (some ⟨b, 0, none⟩), u5, u6, u7, u8, u9, u10, u11, u12, u13, u14, u15, u16, u17, u18, u19, u20, u21, u22, u23, u24, u25, u26, u27, u28, u29, u30, u31, u32, u33, u34, u35, u36, u37, u38, u39, u40, u41, u42, u43, u44, u45, u46, u47, u48, u49, u50, u51, u52, u53, u54, u55, u56, u57, u58, u59, u60, u61, u62, u63, u64, u65, u66, u67, u68, u69, u70, u71, u72, u73, u74, u75, u76, u77, u78, u79, u80, u81, u82, u83, u84, u85, u86, u87, u88, u89, u90, u91, u92, u93, u94, u95, u96, u97, u98, u99, u100, u101, u102, u103, u104, u105, u106, u107, u108, u109, u110, u111, u112, u113, u114, u115, u116, u117, u118, u119, u120, u121, u122, u123, u124, u125, u126, u127, u128, u129, u130, u131, u132, u133, u134, u135, u136, u137, u138, u139, u140, u141, u142, u143, u144, u145, u146, u147, u148, u149, u150, u151, u152, u153], []⟩ W := by
  obtain ⟨p0, p1, hsz⟩ := hp
  obtain ⟨hax, hay⟩ := ha
  have zha := szc hax
  obtain ⟨hbx, hby⟩ := hb
  have zhb := szc hbx
  conv => arg 2; whnf
  go_wp2_with first | (go_at_call 17; (with_reducible refine (HX _ ?hpp).mono ?_); (try case hpp => exact ⟨by go_simp, by go_simp, by go_simp <;> omega⟩); rintro e w1 ⟨rfl, hb⟩; obtain ⟨os, n, rfl⟩ := Below.moreE hb; clear hb)
  all_goals
    exact hQ _ _ _ _ _ _ _ _ (by repeat (first | (with_reducible exact Gr.refl _) | with_reducible refine Gr.alloc ?_ _ | with_reducible refine Gr.more ?_ _ _ | with_reducible refine Gr.setCell ?_ (by dsimp only; omega) _ | with_reducible refine Gr.drew ?_)) (by (first | omega | (simp; done) | (simp; omega))) (by (first | omega | (simp; done) | (simp; omega))) (by go_simp) (by go_simp)

/-- Region 7 of law.BitsTypes. -/
noncomputable def types_r7_code : Code := ((Tryd.f3.body).bind (Code.findR 7)).getD .skip
set_option maxRecDepth 100000 in
set_option maxHeartbeats 4000000 in
theorem types_r7 {Q : Exit → Act → World → Prop} {u0 u1 u2 u5 u6 u7 u8 u9 u10 u11 u12 u13 u14 u15 u16 u17 u18 u19 u20 u21 u22 u23 u24 u25 u26 u27 u28 u29 u30 u31 u32 u33 u34 u35 u36 u37 u38 u39 u40 u41 u42 u43 u44 u45 u46 u47 u48 u49 u50 u51 u52 u53 u54 u55 u56 u57 u58 u59 u60 u61 u62 u63 u64 u65 u66 u67 u68 u69 u70 u71 u72 u73 u74 u75 u76 u77 u78 u79 u80 u81 u82 u83 u84 u85 u86 u87 u88 u89 u90 u91 u92 u93 u94 u95 u96 u97 u98 u99 u100 u101 u102 u103 u104 u105 u106 u107 u108 u109 u110 u111 u112 u113 u114 u115 u116 u117 u118 u119 u120 u121 u122 u123 u124 u125 u126 u127 u128 u129 u130 u131 u132 u133 u134 u135 u136 u137 u138 u139 u140 u141 u142 u143 u144 u145 u146 u147 u148 u149 u150 u151 u152 u153 : Value} {W : World} {a b : Nat} {s t S e : Int} {g d G : Bool} (hq : PR8 W) (ha : BoxT W a s g) (hb : BoxT W b t d) (HX : QetT 18 #[tyV s g, tyV t d] S G e) (hQ : ∀ (v60 v61 v62 v59 v63 v64 : Value) (b20 : Nat) (W' : World), Gr W.heap.size W W' → W.heap.size ≤ b20 → b20 < W'.heap.size → W'.cell? ⟨b20, 0, none⟩ = some (.int .i64 S) → W'.cell? ⟨b20, 1, none⟩ = some (.bool G) → Q .normal ⟨#[u0, u1, u2, .pointer (some ⟨a, 0, none⟩), .pointer (some ⟨b, 0, none⟩), u5, u6, u7, u8, u9, u10, u11, u12, u13, u14, u15, u16, u17, u18, u19, .pointer (some ⟨b20, 0, none⟩), .int .i64 e, u22, u23, u24, u25, u26, u27, u28, u29, u30, u31, u32, u33, u34, u35, u36, u37, u38, u39, u40, u41, u42, u43, u44, u45, u46, u47, u48, u49, u50, u51, u52, u53, u54, u55, u56, u57, u58, v59, v60, v61, v62, v63, v64, u65, u66, u67, u68, u69, u70, u71, u72, u73, u74, u75, u76, u77, u78, u79, u80, u81, u82, u83, u84, u85, u86, u87, u88, u89, u90, u91, u92, u93, u94, u95, u96, u97, u98, u99, u100, u101, u102, u103, u104, u105, u106, u107, u108, u109, u110, u111, u112, u113, u114, u115, u116, u117, u118, u119, u120, u121, u122, u123, u124, u125, u126, u127, u128, u129, u130, u131, u132, u133, u134, u135, u136, u137, u138, u139, u140, u141, u142, u143, u144, u145, u146, u147, u148, u149, u150, u151, u152, u153], []⟩ W') : Code.wp Tryd.prog types_r7_code Q ⟨#[u0, u1, u2, .pointer (some ⟨a, 0, none⟩), .pointer (some ⟨b, 0, none⟩), u5, u6, u7, u8, u9, u10, u11, u12, u13, u14, u15, u16, u17, u18, u19, u20, u21, u22, u23, u24, u25, u26, u27, u28, u29, u30, u31, u32, u33, u34, u35, u36, u37, u38, u39, u40, u41, u42, u43, u44, u45, u46, u47, u48, u49, u50, u51, u52, u53, u54, u55, u56, u57, u58, u59, u60, u61, u62, u63, u64, u65, u66, u67, u68, u69, u70, u71, u72, u73, u74, u75, u76, u77, u78, u79, u80, u81, u82, u83, u84, u85, u86, u87, u88, u89, u90, u91, u92, u93, u94, u95, u96, u97, u98, u99, u100, u101, u102, u103, u104, u105, u106, u107, u108, u109, u110, u111, u112, u113, u114, u115, u116, u117, u118, u119, u120, u121, u122, u123, u124, u125, u126, u127, u128, u129, u130, u131, u132, u133, u134, u135, u136, u137, u138, u139, u140, u141, u142, u143, u144, u145, u146, u147, u148, u149, u150, u151, u152, u153], []⟩ W := by
  obtain ⟨q0, q1, q2, q3, q4, q5, q6, q7⟩ := hq
  have zq := szc q0
  obtain ⟨hax, hay⟩ := ha
  have zha := szc hax
  obtain ⟨hbx, hby⟩ := hb
  have zhb := szc hbx
  conv => arg 2; whnf
  go_wp2_with first | (go_at_call 18; (with_reducible refine (HX _ ?hpp).mono ?_); (try case hpp => exact ⟨by go_simp, by go_simp, by go_simp, by go_simp, by go_simp, by go_simp, by go_simp, by go_simp⟩); rintro e w1 ⟨rfl, hb⟩; obtain ⟨os, n, rfl⟩ := Below.moreE hb; clear hb)
  all_goals
    exact hQ _ _ _ _ _ _ _ _ (by repeat (first | (with_reducible exact Gr.refl _) | with_reducible refine Gr.alloc ?_ _ | with_reducible refine Gr.more ?_ _ _ | with_reducible refine Gr.setCell ?_ (by dsimp only; omega) _ | with_reducible refine Gr.drew ?_)) (by (first | omega | (simp; done) | (simp; omega))) (by (first | omega | (simp; done) | (simp; omega))) (by go_simp) (by go_simp)

/-- Region 8 of law.BitsTypes. -/
noncomputable def types_r8_code : Code := ((Tryd.f3.body).bind (Code.findR 8)).getD .skip
set_option maxRecDepth 100000 in
set_option maxHeartbeats 4000000 in
theorem types_r8 {Q : Exit → Act → World → Prop} {u0 u1 u4 u5 u6 u7 u8 u9 u10 u11 u12 u13 u14 u15 u16 u17 u18 u19 u20 u21 u22 u23 u24 u25 u26 u27 u28 u29 u30 u31 u32 u33 u34 u35 u36 u37 u38 u39 u40 u41 u42 u43 u44 u45 u46 u47 u48 u49 u50 u51 u52 u53 u54 u55 u56 u57 u58 u59 u60 u61 u62 u63 u64 u65 u66 u67 u68 u69 u70 u71 u72 u73 u74 u75 u76 u77 u78 u79 u80 u81 u82 u83 u84 u85 u86 u87 u88 u89 u90 u91 u92 u93 u94 u95 u96 u97 u98 u99 u100 u101 u102 u103 u104 u105 u106 u107 u108 u109 u110 u111 u112 u113 u114 u115 u116 u117 u118 u119 u120 u121 u122 u123 u124 u125 u126 u127 u128 u129 u130 u131 u132 u133 u134 u135 u136 u137 u138 u139 u140 u141 u142 u143 u144 u145 u146 u147 u148 u149 u150 u151 u152 u153 : Value} {W : World} {a : Nat} {s v x e : Int} {g : Bool} (ha : BoxT W a s g) (HX : RetM 19 #[tyV s g, .int .i64 v] x e) (hQ : ∀ (v66 v67 v68 v65 v69 v70 : Value) (W' : World), Gr W.heap.size W W' → Q .normal ⟨#[u0, u1, .int .i64 v, .pointer (some ⟨a, 0, none⟩), u4, u5, u6, u7, u8, u9, u10, u11, u12, u13, u14, u15, u16, u17, u18, u19, u20, u21, .int .i64 x, .int .i64 e, u24, u25, u26, u27, u28, u29, u30, u31, u32, u33, u34, u35, u36, u37, u38, u39, u40, u41, u42, u43, u44, u45, u46, u47, u48, u49, u50, u51, u52, u53, u54, u55, u56, u57, u58, u59, u60, u61, u62, u63, u64, v65, v66, v67, v68, v69, v70, u71, u72, u73, u74, u75, u76, u77, u78, u79, u80, u81, u82, u83, u84, u85, u86, u87, u88, u89, u90, u91, u92, u93, u94, u95, u96, u97, u98, u99, u100, u101, u102, u103, u104, u105, u106, u107, u108, u109, u110, u111, u112, u113, u114, u115, u116, u117, u118, u119, u120, u121, u122, u123, u124, u125, u126, u127, u128, u129, u130, u131, u132, u133, u134, u135, u136, u137, u138, u139, u140, u141, u142, u143, u144, u145, u146, u147, u148, u149, u150, u151, u152, u153], []⟩ W') : Code.wp Tryd.prog types_r8_code Q ⟨#[u0, u1, .int .i64 v, .pointer (some ⟨a, 0, none⟩), u4, u5, u6, u7, u8, u9, u10, u11, u12, u13, u14, u15, u16, u17, u18, u19, u20, u21, u22, u23, u24, u25, u26, u27, u28, u29, u30, u31, u32, u33, u34, u35, u36, u37, u38, u39, u40, u41, u42, u43, u44, u45, u46, u47, u48, u49, u50, u51, u52, u53, u54, u55, u56, u57, u58, u59, u60, u61, u62, u63, u64, u65, u66, u67, u68, u69, u70, u71, u72, u73, u74, u75, u76, u77, u78, u79, u80, u81, u82, u83, u84, u85, u86, u87, u88, u89, u90, u91, u92, u93, u94, u95, u96, u97, u98, u99, u100, u101, u102, u103, u104, u105, u106, u107, u108, u109, u110, u111, u112, u113, u114, u115, u116, u117, u118, u119, u120, u121, u122, u123, u124, u125, u126, u127, u128, u129, u130, u131, u132, u133, u134, u135, u136, u137, u138, u139, u140, u141, u142, u143, u144, u145, u146, u147, u148, u149, u150, u151, u152, u153], []⟩ W := by
  obtain ⟨hax, hay⟩ := ha
  have zha := szc hax
  conv => arg 2; whnf
  go_wp2_with first | (go_at_call 19; (with_reducible refine (HX _).mono ?_); rintro e w1 ⟨rfl, hb⟩; obtain ⟨os, n, rfl⟩ := Below.moreE hb; clear hb)
  all_goals
    first | exact (by repeat (first | (with_reducible exact Gr.refl _) | with_reducible refine Gr.alloc ?_ _ | with_reducible refine Gr.more ?_ _ _ | with_reducible refine Gr.setCell ?_ (by dsimp only; omega) _ | with_reducible refine Gr.drew ?_)) | exact hQ _ _ _ _ _ _ _ (by repeat (first | (with_reducible exact Gr.refl _) | with_reducible refine Gr.alloc ?_ _ | with_reducible refine Gr.more ?_ _ _ | with_reducible refine Gr.setCell ?_ (by dsimp only; omega) _ | with_reducible refine Gr.drew ?_)) 

/-- Region 9 of law.BitsTypes. -/
noncomputable def types_r9_code : Code := ((Tryd.f3.body).bind (Code.findR 9)).getD .skip
set_option maxRecDepth 100000 in
set_option maxHeartbeats 4000000 in
theorem types_r9 {Q : Exit → Act → World → Prop} {u0 u1 u4 u5 u6 u7 u8 u9 u10 u11 u12 u13 u14 u15 u16 u17 u18 u19 u20 u21 u22 u23 u24 u25 u26 u27 u28 u29 u30 u31 u32 u33 u34 u35 u36 u37 u38 u39 u40 u41 u42 u43 u44 u45 u46 u47 u48 u49 u50 u51 u52 u53 u54 u55 u56 u57 u58 u59 u60 u61 u62 u63 u64 u65 u66 u67 u68 u69 u70 u71 u72 u73 u74 u75 u76 u77 u78 u79 u80 u81 u82 u83 u84 u85 u86 u87 u88 u89 u90 u91 u92 u93 u94 u95 u96 u97 u98 u99 u100 u101 u102 u103 u104 u105 u106 u107 u108 u109 u110 u111 u112 u113 u114 u115 u116 u117 u118 u119 u120 u121 u122 u123 u124 u125 u126 u127 u128 u129 u130 u131 u132 u133 u134 u135 u136 u137 u138 u139 u140 u141 u142 u143 u144 u145 u146 u147 u148 u149 u150 u151 u152 u153 : Value} {W : World} {a : Nat} {s v x e : Int} {g : Bool} (ha : BoxT W a s g) (HX : RetM 20 #[tyV s g, .int .i64 v] x e) (hQ : ∀ (v72 v73 v74 v71 v75 v76 : Value) (W' : World), Gr W.heap.size W W' → Q .normal ⟨#[u0, u1, .int .i64 v, .pointer (some ⟨a, 0, none⟩), u4, u5, u6, u7, u8, u9, u10, u11, u12, u13, u14, u15, u16, u17, u18, u19, u20, u21, u22, u23, .int .i64 x, .int .i64 e, u26, u27, u28, u29, u30, u31, u32, u33, u34, u35, u36, u37, u38, u39, u40, u41, u42, u43, u44, u45, u46, u47, u48, u49, u50, u51, u52, u53, u54, u55, u56, u57, u58, u59, u60, u61, u62, u63, u64, u65, u66, u67, u68, u69, u70, v71, v72, v73, v74, v75, v76, u77, u78, u79, u80, u81, u82, u83, u84, u85, u86, u87, u88, u89, u90, u91, u92, u93, u94, u95, u96, u97, u98, u99, u100, u101, u102, u103, u104, u105, u106, u107, u108, u109, u110, u111, u112, u113, u114, u115, u116, u117, u118, u119, u120, u121, u122, u123, u124, u125, u126, u127, u128, u129, u130, u131, u132, u133, u134, u135, u136, u137, u138, u139, u140, u141, u142, u143, u144, u145, u146, u147, u148, u149, u150, u151, u152, u153], []⟩ W') : Code.wp Tryd.prog types_r9_code Q ⟨#[u0, u1, .int .i64 v, .pointer (some ⟨a, 0, none⟩), u4, u5, u6, u7, u8, u9, u10, u11, u12, u13, u14, u15, u16, u17, u18, u19, u20, u21, u22, u23, u24, u25, u26, u27, u28, u29, u30, u31, u32, u33, u34, u35, u36, u37, u38, u39, u40, u41, u42, u43, u44, u45, u46, u47, u48, u49, u50, u51, u52, u53, u54, u55, u56, u57, u58, u59, u60, u61, u62, u63, u64, u65, u66, u67, u68, u69, u70, u71, u72, u73, u74, u75, u76, u77, u78, u79, u80, u81, u82, u83, u84, u85, u86, u87, u88, u89, u90, u91, u92, u93, u94, u95, u96, u97, u98, u99, u100, u101, u102, u103, u104, u105, u106, u107, u108, u109, u110, u111, u112, u113, u114, u115, u116, u117, u118, u119, u120, u121, u122, u123, u124, u125, u126, u127, u128, u129, u130, u131, u132, u133, u134, u135, u136, u137, u138, u139, u140, u141, u142, u143, u144, u145, u146, u147, u148, u149, u150, u151, u152, u153], []⟩ W := by
  obtain ⟨hax, hay⟩ := ha
  have zha := szc hax
  conv => arg 2; whnf
  go_wp2_with first | (go_at_call 20; (with_reducible refine (HX _).mono ?_); rintro e w1 ⟨rfl, hb⟩; obtain ⟨os, n, rfl⟩ := Below.moreE hb; clear hb)
  all_goals
    first | exact (by repeat (first | (with_reducible exact Gr.refl _) | with_reducible refine Gr.alloc ?_ _ | with_reducible refine Gr.more ?_ _ _ | with_reducible refine Gr.setCell ?_ (by dsimp only; omega) _ | with_reducible refine Gr.drew ?_)) | exact hQ _ _ _ _ _ _ _ (by repeat (first | (with_reducible exact Gr.refl _) | with_reducible refine Gr.alloc ?_ _ | with_reducible refine Gr.more ?_ _ _ | with_reducible refine Gr.setCell ?_ (by dsimp only; omega) _ | with_reducible refine Gr.drew ?_)) 

/-- Region 10 of law.BitsTypes. -/
noncomputable def types_r10_code : Code := ((Tryd.f3.body).bind (Code.findR 10)).getD .skip
set_option maxRecDepth 100000 in
set_option maxHeartbeats 4000000 in
theorem types_r10 {Q : Exit → Act → World → Prop} {u0 u1 u5 u6 u7 u8 u9 u10 u11 u12 u13 u14 u15 u16 u17 u18 u19 u20 u21 u22 u23 u24 u25 u26 u27 u28 u29 u30 u31 u32 u33 u34 u35 u36 u37 u38 u39 u40 u41 u42 u43 u44 u45 u46 u47 u48 u49 u50 u51 u52 u53 u54 u55 u56 u57 u58 u59 u60 u61 u62 u63 u64 u65 u66 u67 u68 u69 u70 u71 u72 u73 u74 u75 u76 u77 u78 u79 u80 u81 u82 u83 u84 u85 u86 u87 u88 u89 u90 u91 u92 u93 u94 u95 u96 u97 u98 u99 u100 u101 u102 u103 u104 u105 u106 u107 u108 u109 u110 u111 u112 u113 u114 u115 u116 u117 u118 u119 u120 u121 u122 u123 u124 u125 u126 u127 u128 u129 u130 u131 u132 u133 u134 u135 u136 u137 u138 u139 u140 u141 u142 u143 u144 u145 u146 u147 u148 u149 u150 u151 u152 u153 : Value} {W : World} {a b : Nat} {s t v x e : Int} {g d : Bool} (hp : PI W) (ha : BoxT W a s g) (hb : BoxT W b t d) (HX : RetN 21 #[tyV s g, tyV t d, .int .i64 v] x e) (hQ : ∀ (v78 v79 v80 v81 v77 v82 v83 : Value) (W' : World), Gr W.heap.size W W' → Q .normal ⟨#[u0, u1, .int .i64 v, .pointer (some ⟨a, 0, none⟩), .pointer (some ⟨b, 0, none⟩), u5, u6, u7, u8, u9, u10, u11, u12, u13, u14, u15, u16, u17, u18, u19, u20, u21, u22, u23, u24, u25, .int .i64 x, .int .i64 e, u28, u29, u30, u31, u32, u33, u34, u35, u36, u37, u38, u39, u40, u41, u42, u43, u44, u45, u46, u47, u48, u49, u50, u51, u52, u53, u54, u55, u56, u57, u58, u59, u60, u61, u62, u63, u64, u65, u66, u67, u68, u69, u70, u71, u72, u73, u74, u75, u76, v77, v78, v79, v80, v81, v82, v83, u84, u85, u86, u87, u88, u89, u90, u91, u92, u93, u94, u95, u96, u97, u98, u99, u100, u101, u102, u103, u104, u105, u106, u107, u108, u109, u110, u111, u112, u113, u114, u115, u116, u117, u118, u119, u120, u121, u122, u123, u124, u125, u126, u127, u128, u129, u130, u131, u132, u133, u134, u135, u136, u137, u138, u139, u140, u141, u142, u143, u144, u145, u146, u147, u148, u149, u150, u151, u152, u153], []⟩ W') : Code.wp Tryd.prog types_r10_code Q ⟨#[u0, u1, .int .i64 v, .pointer (some ⟨a, 0, none⟩), .pointer (some ⟨b, 0, none⟩), u5, u6, u7, u8, u9, u10, u11, u12, u13, u14, u15, u16, u17, u18, u19, u20, u21, u22, u23, u24, u25, u26, u27, u28, u29, u30, u31, u32, u33, u34, u35, u36, u37, u38, u39, u40, u41, u42, u43, u44, u45, u46, u47, u48, u49, u50, u51, u52, u53, u54, u55, u56, u57, u58, u59, u60, u61, u62, u63, u64, u65, u66, u67, u68, u69, u70, u71, u72, u73, u74, u75, u76, u77, u78, u79, u80, u81, u82, u83, u84, u85, u86, u87, u88, u89, u90, u91, u92, u93, u94, u95, u96, u97, u98, u99, u100, u101, u102, u103, u104, u105, u106, u107, u108, u109, u110, u111, u112, u113, u114, u115, u116, u117, u118, u119, u120, u121, u122, u123, u124, u125, u126, u127, u128, u129, u130, u131, u132, u133, u134, u135, u136, u137, u138, u139, u140, u141, u142, u143, u144, u145, u146, u147, u148, u149, u150, u151, u152, u153], []⟩ W := by
  obtain ⟨p0, p1, hsz⟩ := hp
  obtain ⟨hax, hay⟩ := ha
  have zha := szc hax
  obtain ⟨hbx, hby⟩ := hb
  have zhb := szc hbx
  conv => arg 2; whnf
  go_wp2_with first | (go_at_call 21; (with_reducible refine (HX _ ?hpp).mono ?_); (try case hpp => exact ⟨by go_simp, by go_simp, by go_simp <;> omega⟩); rintro e w1 ⟨rfl, hb⟩; obtain ⟨os, n, rfl⟩ := Below.moreE hb; clear hb)
  all_goals
    first | exact (by repeat (first | (with_reducible exact Gr.refl _) | with_reducible refine Gr.alloc ?_ _ | with_reducible refine Gr.more ?_ _ _ | with_reducible refine Gr.setCell ?_ (by dsimp only; omega) _ | with_reducible refine Gr.drew ?_)) | exact hQ _ _ _ _ _ _ _ _ (by repeat (first | (with_reducible exact Gr.refl _) | with_reducible refine Gr.alloc ?_ _ | with_reducible refine Gr.more ?_ _ _ | with_reducible refine Gr.setCell ?_ (by dsimp only; omega) _ | with_reducible refine Gr.drew ?_)) 

/-- Region 11 of law.BitsTypes. -/
noncomputable def types_r11_code : Code := ((Tryd.f3.body).bind (Code.findR 11)).getD .skip
set_option maxRecDepth 100000 in
set_option maxHeartbeats 4000000 in
theorem types_r11 {Q : Exit → Act → World → Prop} {u0 u1 u5 u6 u7 u8 u9 u10 u11 u12 u13 u14 u15 u16 u17 u18 u19 u20 u21 u22 u23 u24 u25 u26 u27 u28 u29 u30 u31 u32 u33 u34 u35 u36 u37 u38 u39 u40 u41 u42 u43 u44 u45 u46 u47 u48 u49 u50 u51 u52 u53 u54 u55 u56 u57 u58 u59 u60 u61 u62 u63 u64 u65 u66 u67 u68 u69 u70 u71 u72 u73 u74 u75 u76 u77 u78 u79 u80 u81 u82 u83 u84 u85 u86 u87 u88 u89 u90 u91 u92 u93 u94 u95 u96 u97 u98 u99 u100 u101 u102 u103 u104 u105 u106 u107 u108 u109 u110 u111 u112 u113 u114 u115 u116 u117 u118 u119 u120 u121 u122 u123 u124 u125 u126 u127 u128 u129 u130 u131 u132 u133 u134 u135 u136 u137 u138 u139 u140 u141 u142 u143 u144 u145 u146 u147 u148 u149 u150 u151 u152 u153 : Value} {W : World} {a b : Nat} {s t v x e : Int} {g d : Bool} (ha : BoxT W a s g) (hb : BoxT W b t d) (HX : RetM 22 #[tyV s g, tyV t d, .int .i64 v] x e) (hQ : ∀ (v85 v86 v87 v88 v84 v89 v90 : Value) (W' : World), Gr W.heap.size W W' → Q .normal ⟨#[u0, u1, .int .i64 v, .pointer (some ⟨a, 0, none⟩), .pointer (some ⟨b, 0, none⟩), u5, u6, u7, u8, u9, u10, u11, u12, u13, u14, u15, u16, u17, u18, u19, u20, u21, u22, u23, u24, u25, u26, u27, .int .i64 x, .int .i64 e, u30, u31, u32, u33, u34, u35, u36, u37, u38, u39, u40, u41, u42, u43, u44, u45, u46, u47, u48, u49, u50, u51, u52, u53, u54, u55, u56, u57, u58, u59, u60, u61, u62, u63, u64, u65, u66, u67, u68, u69, u70, u71, u72, u73, u74, u75, u76, u77, u78, u79, u80, u81, u82, u83, v84, v85, v86, v87, v88, v89, v90, u91, u92, u93, u94, u95, u96, u97, u98, u99, u100, u101, u102, u103, u104, u105, u106, u107, u108, u109, u110, u111, u112, u113, u114, u115, u116, u117, u118, u119, u120, u121, u122, u123, u124, u125, u126, u127, u128, u129, u130, u131, u132, u133, u134, u135, u136, u137, u138, u139, u140, u141, u142, u143, u144, u145, u146, u147, u148, u149, u150, u151, u152, u153], []⟩ W') : Code.wp Tryd.prog types_r11_code Q ⟨#[u0, u1, .int .i64 v, .pointer (some ⟨a, 0, none⟩), .pointer (some ⟨b, 0, none⟩), u5, u6, u7, u8, u9, u10, u11, u12, u13, u14, u15, u16, u17, u18, u19, u20, u21, u22, u23, u24, u25, u26, u27, u28, u29, u30, u31, u32, u33, u34, u35, u36, u37, u38, u39, u40, u41, u42, u43, u44, u45, u46, u47, u48, u49, u50, u51, u52, u53, u54, u55, u56, u57, u58, u59, u60, u61, u62, u63, u64, u65, u66, u67, u68, u69, u70, u71, u72, u73, u74, u75, u76, u77, u78, u79, u80, u81, u82, u83, u84, u85, u86, u87, u88, u89, u90, u91, u92, u93, u94, u95, u96, u97, u98, u99, u100, u101, u102, u103, u104, u105, u106, u107, u108, u109, u110, u111, u112, u113, u114, u115, u116, u117, u118, u119, u120, u121, u122, u123, u124, u125, u126, u127, u128, u129, u130, u131, u132, u133, u134, u135, u136, u137, u138, u139, u140, u141, u142, u143, u144, u145, u146, u147, u148, u149, u150, u151, u152, u153], []⟩ W := by
  obtain ⟨hax, hay⟩ := ha
  have zha := szc hax
  obtain ⟨hbx, hby⟩ := hb
  have zhb := szc hbx
  conv => arg 2; whnf
  go_wp2_with first | (go_at_call 22; (with_reducible refine (HX _).mono ?_); rintro e w1 ⟨rfl, hb⟩; obtain ⟨os, n, rfl⟩ := Below.moreE hb; clear hb)
  all_goals
    first | exact (by repeat (first | (with_reducible exact Gr.refl _) | with_reducible refine Gr.alloc ?_ _ | with_reducible refine Gr.more ?_ _ _ | with_reducible refine Gr.setCell ?_ (by dsimp only; omega) _ | with_reducible refine Gr.drew ?_)) | exact hQ _ _ _ _ _ _ _ _ (by repeat (first | (with_reducible exact Gr.refl _) | with_reducible refine Gr.alloc ?_ _ | with_reducible refine Gr.more ?_ _ _ | with_reducible refine Gr.setCell ?_ (by dsimp only; omega) _ | with_reducible refine Gr.drew ?_)) 

/-- Region 12 of law.BitsTypes. -/
noncomputable def types_r12_code : Code := ((Tryd.f3.body).bind (Code.findR 12)).getD .skip
set_option maxRecDepth 100000 in
set_option maxHeartbeats 40000000 in
theorem types_r12 {Q : Exit → Act → World → Prop} {u0 u1 u2 u4 u5 u6 u30 u31 u32 u33 u34 u35 u36 u37 u38 u39 u40 u41 u42 u43 u44 u45 u46 u47 u48 u49 u50 u51 u52 u53 u54 u55 u56 u57 u58 u59 u60 u61 u62 u63 u64 u65 u66 u67 u68 u69 u70 u71 u72 u73 u74 u75 u76 u77 u78 u79 u80 u81 u82 u83 u84 u85 u86 u87 u88 u89 u90 u91 u92 u93 u94 u95 u96 u97 u98 u99 u100 u101 u102 u103 u104 u105 u106 u107 u108 u109 u110 u111 u112 u113 u114 u115 u116 u117 u118 u119 u120 u121 u122 u123 u124 u125 u126 u127 u128 u129 u130 u131 u132 u133 u134 u135 u136 u137 u138 u139 u140 u141 u142 u143 u144 u145 u146 u147 u148 u149 u150 u151 u152 u153 : Value} {W : World} {a b1 b2 b3 b4 : Nat} {s x y e f c z S T k : Int} {g G D : Bool} (ha : BoxT W a s g) (h1 : BoxT W b1 S G) (h2 : BoxT W b2 S G) (h3 : BoxT W b3 T D) (h4 : BoxT W b4 T D) (H0 : RetV 23 #[tyV s g] k) (H1 : RetV 24 #[tyV s g] k) (hQ : ∀ (v91 v92 v93 v94 v95 v96 v97 v98 v99 v100 v101 v102 v103 v104 v105 v106 v107 v108 v109 v110 v111 v112 v113 v114 v115 v116 v117 v118 v119 v120 v121 v122 v123 v124 v125 v126 v127 v128 v129 v130 v131 v132 v133 v134 v135 v136 v137 v138 v139 v140 v141 v142 v143 v144 v145 v146 v147 v148 v149 v150 v151 v152 v153 : Value) (W' : World), Gr W.heap.size W W' → Q .normal ⟨#[u0, u1, u2, .pointer (some ⟨a, 0, none⟩), u4, u5, .bool true, .bool true, .int .i64 x, .int .i64 y, .int .i64 e, .int .i64 x, .int .i64 y, .int .i64 e, .pointer (some ⟨b1, 0, none⟩), .int .i64 e, .pointer (some ⟨b2, 0, none⟩), .int .i64 e, .pointer (some ⟨b3, 0, none⟩), .int .i64 f, .pointer (some ⟨b4, 0, none⟩), .int .i64 f, .int .i64 c, .int .i64 e, .int .i64 c, .int .i64 e, .int .i64 z, .int .i64 f, .int .i64 z, .int .i64 f, u30, u31, u32, u33, u34, u35, u36, u37, u38, u39, u40, u41, u42, u43, u44, u45, u46, u47, u48, u49, u50, u51, u52, u53, u54, u55, u56, u57, u58, u59, u60, u61, u62, u63, u64, u65, u66, u67, u68, u69, u70, u71, u72, u73, u74, u75, u76, u77, u78, u79, u80, u81, u82, u83, u84, u85, u86, u87, u88, u89, u90, v91, v92, v93, v94, v95, v96, v97, v98, v99, v100, v101, v102, v103, v104, v105, v106, v107, v108, v109, v110, v111, v112, v113, v114, v115, v116, v117, v118, v119, v120, v121, v122, v123, v124, v125, v126, v127, v128, v129, v130, v131, v132, v133, v134, v135, v136, v137, v138, v139, v140, v141, v142, v143, v144, v145, v146, v147, v148, v149, v150, v151, v152, v153], []⟩ W') : Code.wp Tryd.prog types_r12_code Q ⟨#[u0, u1, u2, .pointer (some ⟨a, 0, none⟩), u4, u5, u6, .bool true, .int .i64 x, .int .i64 y, .int .i64 e, .int .i64 x, .int .i64 y, .int .i64 e, .pointer (some ⟨b1, 0, none⟩), .int .i64 e, .pointer (some ⟨b2, 0, none⟩), .int .i64 e, .pointer (some ⟨b3, 0, none⟩), .int .i64 f, .pointer (some ⟨b4, 0, none⟩), .int .i64 f, .int .i64 c, .int .i64 e, .int .i64 c, .int .i64 e, .int .i64 z, .int .i64 f, .int .i64 z, .int .i64 f, u30, u31, u32, u33, u34, u35, u36, u37, u38, u39, u40, u41, u42, u43, u44, u45, u46, u47, u48, u49, u50, u51, u52, u53, u54, u55, u56, u57, u58, u59, u60, u61, u62, u63, u64, u65, u66, u67, u68, u69, u70, u71, u72, u73, u74, u75, u76, u77, u78, u79, u80, u81, u82, u83, u84, u85, u86, u87, u88, u89, u90, u91, u92, u93, u94, u95, u96, u97, u98, u99, u100, u101, u102, u103, u104, u105, u106, u107, u108, u109, u110, u111, u112, u113, u114, u115, u116, u117, u118, u119, u120, u121, u122, u123, u124, u125, u126, u127, u128, u129, u130, u131, u132, u133, u134, u135, u136, u137, u138, u139, u140, u141, u142, u143, u144, u145, u146, u147, u148, u149, u150, u151, u152, u153], []⟩ W := by
  obtain ⟨hax, hay⟩ := ha
  have zha := szc hax
  obtain ⟨h1x, h1y⟩ := h1
  have zh1 := szc h1x
  obtain ⟨h2x, h2y⟩ := h2
  have zh2 := szc h2x
  obtain ⟨h3x, h3y⟩ := h3
  have zh3 := szc h3x
  obtain ⟨h4x, h4y⟩ := h4
  have zh4 := szc h4x
  conv => arg 2; whnf
  first | skip; go_region_held3 (fun W' => W'.cell? ⟨a, 0, none⟩ = some (.int .i64 s) ∧ W'.cell? ⟨a, 1, none⟩ = some (.bool g) ∧ W'.cell? ⟨b1, 0, none⟩ = some (.int .i64 S) ∧ W'.cell? ⟨b1, 1, none⟩ = some (.bool G) ∧ W'.cell? ⟨b2, 0, none⟩ = some (.int .i64 S) ∧ W'.cell? ⟨b2, 1, none⟩ = some (.bool G) ∧ W'.cell? ⟨b3, 0, none⟩ = some (.int .i64 T) ∧ W'.cell? ⟨b3, 1, none⟩ = some (.bool D) ∧ W'.cell? ⟨b4, 0, none⟩ = some (.int .i64 T) ∧ W'.cell? ⟨b4, 1, none⟩ = some (.bool D) ∧ W.heap.size ≤ W'.heap.size) (exact ⟨by go_simp, by go_simp, by go_simp, by go_simp, by go_simp, by go_simp, by go_simp, by go_simp, by go_simp, by go_simp, by (first | omega | (simp; done) | (simp; omega))⟩) (first | (go_at_call 23; (with_reducible refine (H0 _).mono ?_); rintro e w1 ⟨rfl, hb⟩; obtain ⟨os, n, rfl⟩ := Below.moreE hb; clear hb) | (go_at_call 24; (with_reducible refine (H1 _).mono ?_); rintro e w1 ⟨rfl, hb⟩; obtain ⟨os, n, rfl⟩ := Below.moreE hb; clear hb)) | fail
  all_goals
    exact hQ _ _ _ _ _ _ _ _ _ _ _ _ _ _ _ _ _ _ _ _ _ _ _ _ _ _ _ _ _ _ _ _ _ _ _ _ _ _ _ _ _ _ _ _ _ _ _ _ _ _ _ _ _ _ _ _ _ _ _ _ _ _ _ _ (by repeat (first | (with_reducible exact Gr.refl _) | with_reducible refine Gr.alloc ?_ _ | with_reducible refine Gr.more ?_ _ _ | with_reducible refine Gr.setCell ?_ (by dsimp only; omega) _ | with_reducible refine Gr.drew ?_)) 

/-- What the law holds all along. -/
structure KT (w W : World) (s : Int) (g : Bool) (t : Int) (d : Bool) : Prop where
  a : BoxT W w.heap.size s g
  b : BoxT W (w.heap.size + 1) t d
  p : PI W
  q : PR8 W
  hB : Below w.heap.size w W
  hz : w.heap.size + 2 ≤ W.heap.size
theorem KT.up {w W W' : World} (gr : Gr W.heap.size W W') {s : Int} {g : Bool} {t : Int} {d : Bool} (h : KT w W s g t d) : KT w W' s g t d := by
  have hz := h.hz
  exact ⟨h.a.up gr, h.b.up gr, PI.up gr h.p, PR8.up gr h.q, h.hB.trans (gr.below.mono (by omega)), Nat.le_trans hz gr.size⟩

set_option maxRecDepth 100000 in
set_option maxHeartbeats 16000000 in
theorem types_walk (s : Int) (g : Bool) (t : Int) (d : Bool) (v : Int) (lo hi e S T f c z k : Int) (G D : Bool) (H2 : RetR 13 #[tyV s g] lo hi e) (H3 : RetR 14 #[tyV s g] lo hi e) (H4 : RetT 15 #[tyV s g] S G e) (H5 : QetT 16 #[tyV s g] S G e)
    (H6 : RetT 17 #[tyV s g, tyV t d] T D f) (H7 : QetT 18 #[tyV s g, tyV t d] T D f) (H8 : RetM 19 #[tyV s g, .int .i64 v] c e) (H9 : RetM 20 #[tyV s g, .int .i64 v] c e) (H10 : RetN 21 #[tyV s g, tyV t d, .int .i64 v] z f) (H11 : RetM 22 #[tyV s g, tyV t d, .int .i64 v] z f)
    (HK : RetV 23 #[tyV s g] k) (HK' : RetV 24 #[tyV s g] k) (w : World) (hp : PI w) (hE : EV w) (hq : PR8 w) : Calls Tryd.prog 3 #[tyV s g, tyV t d, .int .i64 v] w fun e w' => e = .returned (.bool true) ∧ Below w.heap.size w w' := by
  obtain ⟨p0, p1, hsz⟩ := hp
  obtain ⟨q0, q1, q2, q3, q4, q5, q6, q7⟩ := hq
  obtain ⟨⟨es, e0, hes⟩, ⟨er, e1, her⟩, _⟩ := hE
  have Hes := Lib.hid hes
  have Her := Lib.hid her
  clear hes her
  go_enter Tryd.func3, Tryd.ntmps3
  go_upto_region 1 with fail
  go_cut [7] (fun s7 wx => s7 = .bool true ∧ KT w wx s g t d)
  case first =>
    go_wp2_with (go_at_call 12; (refine (sane_any _ ?hpp ?hqq).mono ?_); (try case hpp => exact ⟨by go_simp, by go_simp, by go_simp <;> omega⟩); (try case hqq => exact ⟨⟨es, by go_simp, Hes.out⟩, ⟨er, by go_simp, Her.out⟩, by go_simp <;> omega⟩); rintro e w1 ⟨rfl, hb⟩; obtain ⟨os, n, rfl⟩ := Below.moreE hb; clear hb)
    go_meet
    exact ⟨rfl, ⟨by go_simp, by go_simp⟩, ⟨by go_simp, by go_simp⟩, ⟨by go_simp, by go_simp, by (first | omega | (simp; done) | (simp; omega))⟩, ⟨by go_simp, by go_simp, by go_simp, by go_simp, by go_simp, by go_simp, by go_simp, by go_simp⟩, (Gr.below (by repeat (first | (with_reducible exact Gr.refl _) | (with_reducible exact Gr.refl _) | with_reducible refine Gr.alloc ?_ _ | with_reducible refine Gr.more ?_ _ _ | with_reducible refine Gr.setCell ?_ (by dsimp only; omega) _ | with_reducible refine Gr.drew ?_))), by (first | omega | (simp; done) | (simp; omega))⟩
  case rest =>
  clear hsz p0 p1 q0 q1 q2 q3 q4 q5 q6 q7 e0 e1 Hes Her
  obtain ⟨rfl, hK⟩ := hcut
  go_upto_region 2 with fail
  refine types_r2 hK.a H2 ?_
  intro _ _ _ _ _ _ W2 g2
  replace hK := KT.up g2 hK
  go_upto_region 3 with fail
  refine types_r3 hK.a H3 ?_
  intro _ _ _ _ _ _ W3 g3
  replace hK := KT.up g3 hK
  go_upto_region 4 with fail
  refine types_r4 hK.p hK.a H4 ?_
  intro _ _ _ _ _ b14 W4 g4 bl14 bu14 bx14 by14
  replace hK := KT.up g4 hK
  have hb14 : BoxT W4 b14 _ _ := ⟨bx14, by14⟩
  clear bx14 by14 bl14 bu14
  go_upto_region 5 with fail
  refine types_r5 hK.q hK.a H5 ?_
  intro _ _ _ _ _ b16 W5 g5 bl16 bu16 bx16 by16
  replace hK := KT.up g5 hK
  replace hb14 := BoxT.up g5 hb14
  have hb16 : BoxT W5 b16 _ _ := ⟨bx16, by16⟩
  clear bx16 by16 bl16 bu16
  go_upto_region 6 with fail
  refine types_r6 hK.p hK.a hK.b H6 ?_
  intro _ _ _ _ _ _ b18 W6 g6 bl18 bu18 bx18 by18
  replace hK := KT.up g6 hK
  replace hb14 := BoxT.up g6 hb14
  replace hb16 := BoxT.up g6 hb16
  have hb18 : BoxT W6 b18 _ _ := ⟨bx18, by18⟩
  clear bx18 by18 bl18 bu18
  go_upto_region 7 with fail
  refine types_r7 hK.q hK.a hK.b H7 ?_
  intro _ _ _ _ _ _ b20 W7 g7 bl20 bu20 bx20 by20
  replace hK := KT.up g7 hK
  replace hb14 := BoxT.up g7 hb14
  replace hb16 := BoxT.up g7 hb16
  replace hb18 := BoxT.up g7 hb18
  have hb20 : BoxT W7 b20 _ _ := ⟨bx20, by20⟩
  clear bx20 by20 bl20 bu20
  go_upto_region 8 with fail
  refine types_r8 hK.a H8 ?_
  intro _ _ _ _ _ _ W8 g8
  replace hK := KT.up g8 hK
  replace hb14 := BoxT.up g8 hb14
  replace hb16 := BoxT.up g8 hb16
  replace hb18 := BoxT.up g8 hb18
  replace hb20 := BoxT.up g8 hb20
  go_upto_region 9 with fail
  refine types_r9 hK.a H9 ?_
  intro _ _ _ _ _ _ W9 g9
  replace hK := KT.up g9 hK
  replace hb14 := BoxT.up g9 hb14
  replace hb16 := BoxT.up g9 hb16
  replace hb18 := BoxT.up g9 hb18
  replace hb20 := BoxT.up g9 hb20
  go_upto_region 10 with fail
  refine types_r10 hK.p hK.a hK.b H10 ?_
  intro _ _ _ _ _ _ _ W10 g10
  replace hK := KT.up g10 hK
  replace hb14 := BoxT.up g10 hb14
  replace hb16 := BoxT.up g10 hb16
  replace hb18 := BoxT.up g10 hb18
  replace hb20 := BoxT.up g10 hb20
  go_upto_region 11 with fail
  refine types_r11 hK.a hK.b H11 ?_
  intro _ _ _ _ _ _ _ W11 g11
  replace hK := KT.up g11 hK
  replace hb14 := BoxT.up g11 hb14
  replace hb16 := BoxT.up g11 hb16
  replace hb18 := BoxT.up g11 hb18
  replace hb20 := BoxT.up g11 hb20
  go_upto_region 12 with fail
  refine types_r12 hK.a hb14 hb16 hb18 hb20 HK HK' ?_
  intro _ _ _ _ _ _ _ _ _ _ _ _ _ _ _ _ _ _ _ _ _ _ _ _ _ _ _ _ _ _ _ _ _ _ _ _ _ _ _ _ _ _ _ _ _ _ _ _ _ _ _ _ _ _ _ _ _ _ _ _ _ _ _ W12 g12
  replace hK := KT.up g12 hK
  go_wp2_with fail
  refine bodyPost_ret (v := .bool true) (by simp [results, Tryd.results3, go_sem]) rfl ⟨rfl, hK.hB⟩

theorem brange_ok {s : Int} (v : validB s = true) (g : Bool) : RetR 13 #[tyV s g] (rgL s g) (rgH s g) 0 := fun w => by
  have h := brange_any s g w
  rw [v, sel_t, sel_t, show eT s = 0 by simp [eT, v]] at h
  exact h
theorem brange_bad {s : Int} (v : validB s = false) (g : Bool) : RetR 13 #[tyV s g] 0 0 10 := fun w => by
  have h := brange_any s g w
  rw [v, sel_f, sel_f, show eT s = 10 by simp [eT, v]] at h
  exact h
theorem bpromote_bad {s : Int} (v : validB s = false) (g : Bool) : RetT 15 #[tyV s g] 0 false 10 := fun w hp => by
  have h := bpromote_any s g w hp
  rw [v, show eT s = 10 by simp [eT, v]] at h
  exact h
theorem bwrap_ok {s : Int} (v : validB s = true) (g : Bool) (x : Int) : RetM 19 #[tyV s g, .int .i64 x] (wrapI s g x) 0 := fun w => by
  have h := bwrap_any s g x w
  rw [v, sel_t, show eT s = 0 by simp [eT, v]] at h
  exact h
theorem bwrap_bad {s : Int} (v : validB s = false) (g : Bool) (x : Int) : RetM 19 #[tyV s g, .int .i64 x] 0 10 := fun w => by
  have h := bwrap_any s g x w
  rw [v, sel_f, show eT s = 10 by simp [eT, v]] at h
  exact h
theorem bcheck_ok {s : Int} (v : validB s = true) (g : Bool) : RetV 23 #[tyV s g] 0 := fun w => by
  have h := check_any s g w
  rw [show eT s = 0 by simp [eT, v]] at h
  exact h
theorem bcheck_bad {s : Int} (v : validB s = false) (g : Bool) : RetV 23 #[tyV s g] 10 := fun w => by
  have h := check_any s g w
  rw [show eT s = 10 by simp [eT, v]] at h
  exact h

theorem law_types (s : Int) (g : Bool) (t : Int) (d : Bool) (v : Int) (_ : I64 v) (w : World) (hp : PI w) (hE : EV w) (hq : PR8 w) :
    Calls Tryd.prog 3 #[tyV s g, tyV t d, .int .i64 v] w fun e w' => e = .returned (.bool true) ∧ Below w.heap.size w w' := by
  cases v1 : validB s
  · have hv : (validB s && validB t) = false := by rw [v1]; rfl
    exact types_walk s g t d v _ _ _ _ _ _ _ _ _ _ _ (brange_bad v1 g) (rrange_bad v1 g) (bpromote_bad v1 g) (rpromote_bad v1 g) (usual_bad s g t d hv) (rusual_bad hv g d) (bwrap_bad v1 g v) (rwrap_bad v1 g v) (conv_bad hv v) (rconvert_bad hv g d v) (bcheck_bad v1 g) (rcheck_bad v1 g) w hp hE hq
  · cases v2 : validB t
    · have hv : (validB s && validB t) = false := by rw [v1, v2]; rfl
      exact types_walk s g t d v _ _ _ _ _ _ _ _ _ _ _ (brange_ok v1 g) (rrange_ok v1 g) (promote_ok s g v1) (rpromote_ok v1 g) (usual_bad s g t d hv) (rusual_bad hv g d) (bwrap_ok v1 g v) (rwrap_ok v1 g v) (conv_bad hv v) (rconvert_bad hv g d v) (bcheck_ok v1 g) (rcheck_ok v1 g) w hp hE hq
    · exact types_walk s g t d v _ _ _ _ _ _ _ _ _ _ _ (brange_ok v1 g) (rrange_ok v1 g) (promote_ok s g v1) (rpromote_ok v1 g) (usual_ok s g t d v1 v2) (rusual_ok v1 v2 g d) (bwrap_ok v1 g v) (rwrap_ok v1 g v) (conv_ok v1 v2 v) (rconvert_ok v1 v2 g d v) (bcheck_ok v1 g) (rcheck_ok v1 g) w hp hE hq
end Go.Proofs.YtbdkacfddbiclaaDoor
