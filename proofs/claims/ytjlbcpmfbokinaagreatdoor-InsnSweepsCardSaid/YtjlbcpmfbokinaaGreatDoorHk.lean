/-
  Layer 2: the law InsnSweeps.
-/
import Derived.Test.YtjlbcpmfbokinaaGreatDoorHi
import Derived.Test.YtjlbcpmfbokinaaGreatDoorHj
import Derived.Test.YtjlbcpmfbokinaaGreatDoorQb
import Derived.Deep.QuietTactic
import Derived.BigQuiet
set_option linter.unusedSimpArgs false
set_option linter.unusedVariables false
namespace Go.Proofs.YtjlbcpmfbokinaaGreatDoor
open Go.RowKit Go.Shelf Go.WideMaps Go.Maps

theorem ofR_iV (b : List UInt8) (k : Nat) : ofR b k = iV ((List.range k).map fun j => (ofS b j : Int)) := by unfold ofR iV; simp
theorem inR_len (b : List UInt8) : ∀ n, (inR b n).length = n * 4
  | 0 => rfl
  | n + 1 => by rw [inR_succ, List.length_append, inR_len b n]; show n * 4 + 4 = (n + 1) * 4; omega
theorem inR_at (b : List UInt8) {k c : Nat} (hc : c < 4) : ∀ n, k < n → (inR b n)[k * 4 + c]? = (inC b k)[c]?
  | 0, h => absurd h (Nat.not_lt_zero k)
  | n + 1, h => by
    rw [inR_succ]
    by_cases hk : k < n
    · rw [List.getElem?_append_left (by rw [inR_len]; omega)]
      exact inR_at b hc n hk
    · obtain rfl : k = n := by omega
      rw [List.getElem?_append_right (by rw [inR_len]; omega), inR_len]
      congr 1
      omega
theorem swN_le (b : List UInt8) : swN b ≤ 2049 := by
  by_cases h : 2048 < b.length
  · rw [(swE_long h).2]; omega
  · unfold swN
    split
    · have := cnt_le (okS b) (b.length + 1)
      unfold kS
      omega
    · omega
set_option maxRecDepth 100000 in
set_option maxHeartbeats 4000000 in
theorem sameInts_eq (X : List Int) (hX9 : X.length ≤ 2049) (p q : Option Addr) (pc qc : Nat) (w : World) (hX : SeqAt w p (iV X)) (hY : SeqAt w q (iV X)) : Calls Tryz.prog 15 #[.slice p X.length pc, .slice q X.length qc] w fun e w' => e = .returned (.bool true) ∧ ∃ n, w' = w.drewN n := by
  have hl9 : (X.length : Int) ≤ 2049 := by omega
  go_enter Tryz.func15, Tryz.ntmps15
  go_wp2_with fail
  go_loopw [5] (fun i wr => ∃ (k : Nat), k ≤ X.length ∧ i = .int .i64 (k : Int) ∧ ∃ n, wr = w.drewN n) (fun i _ => X.length - (intOf i).toNat)
  case atStart => exact ⟨0, Nat.zero_le _, rfl, 0, rfl⟩
  case round =>
    obtain ⟨k, hk, rfl, n, rfl⟩ := hrel
    by_cases hlt : k < X.length
    · have hlt' : (k : Int) < (X.length : Int) := by omega
      have hk0 : (0 : Int) ≤ (k : Int) := by omega
      have HW1 : Hid (wrap64 ((k : Int) + 1) = ((k + 1 : Nat) : Int)) := Lib.hid (by unfold wrap64; omega)
      obtain ⟨b1, o1, rfl, e1⟩ := seqAt_neK hX (by intro e; have := congrArg List.length e; rw [iV_len] at this; simp at this; rw [this] at hlt; simp at hlt)
      obtain ⟨b2, o2, rfl, e2⟩ := seqAt_neK hY (by intro e; have := congrArg List.length e; rw [iV_len] at this; simp at this; rw [this] at hlt; simp at hlt)
      have d1 := e1 k _ (iV_get X k hlt)
      have d2 := e2 k _ (iV_get X k hlt)
      have lb1 := lt_of_cell d1
      have lb2 := lt_of_cell d2
      clear hX hY e1 e2
      generalize X[k] = x at *
      go_upto_region 6 with fail
      try dsimp only
      go_quiet (fail)
      go_wp2_with fail
      go_roundw
      case rel => exact ⟨k + 1, hlt, by first | (rw [HW1.out]; done) | (push_cast; rfl), _, by first | rfl | exact World.drewN_drewN _ _ _⟩
      case measure => first | (simp only [intOf, HW1.out]; omega) | (simp only [intOf]; omega)
    · have hge : ¬ (k : Int) < (X.length : Int) := by omega
      go_wp2_with fail
      go_ret
      exact ⟨rfl, n, rfl⟩

set_option maxRecDepth 100000 in
set_option maxHeartbeats 8000000 in
theorem law_sweeps (b : List UInt8) (bp : Option Addr) (bc : Nat) (hcap : b.length ≤ bc) (w : World) (hT : TB w) (hP : PT w) (hb : SeqAt w bp (bV b)) :
    Calls Tryz.prog 5 #[.slice bp b.length bc] w fun e w' => e = .returned (.bool true) ∧ Below w.heap.size w w' := by
  have SN := fun W (g : Below w.heap.size w W) => sane_yes W (hT.up g) (hP.up g)
  have SW := fun W (g : Below w.heap.size w W) => sweep_any b bp bc W (hT.up g) (hb.up g) hcap
  have RS := fun W (g : Below w.heap.size w W) => rsweep_any b bp bc W (hb.up g) hcap
  unfold SwA at SW RS
  have hN9 := swN_le b
  have HR := Lib.hid (fun k c (hc : c < 4) (h : k < swN b) => inR_at b hc (swN b) h)
  have HL := Lib.hid (show ((List.range (swN b)).map fun j => (ofS b j : Int)).length = swN b by simp)
  rw [ofR_iV] at SW RS
  generalize ((List.range (swN b)).map fun j => (ofS b j : Int)) = X at *
  generalize inR b (swN b) = R at *
  generalize swN b = N at *
  generalize swE b = E at *
  have SI := fun W p q pc qc h1 h2 => sameInts_eq X (by rw [HL.out]; exact hN9) p q pc qc W h1 h2
  rw [HL.out] at SI
  clear hT hP hb HL
  go_enter Tryz.func5, Tryz.ntmps5
  go_upto_region 2 with (go_at_call 6; (with_reducible refine (SN _ (Below.refl _ _)).mono ?_); rintro e w1 ⟨rfl, hL1⟩)
  go_upto_region 3 with (go_at_call 25; (with_reducible refine (SW _ hL1).mono ?_); rintro e w2 ⟨u, v, rfl, ⟨p, c, q, d, rfl, rfl, s1, s2⟩, hL2⟩)
  have g2 := hL1.trans (hL2.mono hL1.size)
  go_upto_region 4 with (go_at_call 26; (with_reducible refine (RS _ g2).mono ?_); rintro e w3 ⟨u, v, rfl, ⟨p', c', q', d', rfl, rfl, s3, s4⟩, hL3⟩)
  have g3 := g2.trans (hL3.mono g2.size)
  have hG : Gr w3.heap.size w3 w3 := Gr.refl w3
  have t1 := s1.up hL3
  have t2 := s2.up hL3
  refine wp_gen (fun W => W.cell? ⟨w3.heap.size, 0, none⟩ = some (.slice p' N c') ∧ W.cell? ⟨w3.heap.size, 1, none⟩ = some (.slice q' N d') ∧ W.cell? ⟨w3.heap.size, 2, none⟩ = some (.int .i64 E) ∧ SeqAt W p R ∧ SeqAt W q (iV X) ∧ SeqAt W p' R ∧ SeqAt W q' (iV X) ∧ Below w.heap.size w W) ⟨by go_simp, by go_simp, by go_simp, t1.up (Gr.below (by repeat (first | (with_reducible exact hG) | with_reducible refine Gr.alloc ?_ _ | with_reducible refine Gr.more ?_ _ _ | with_reducible refine Gr.setCell ?_ (by dsimp only; (try simp only [World.size_more, World.size_alloc, World.size_setCell, World.size_drew, Array.size_append]); omega) _ | with_reducible refine Gr.drew ?_))), t2.up (Gr.below (by repeat (first | (with_reducible exact hG) | with_reducible refine Gr.alloc ?_ _ | with_reducible refine Gr.more ?_ _ _ | with_reducible refine Gr.setCell ?_ (by dsimp only; (try simp only [World.size_more, World.size_alloc, World.size_setCell, World.size_drew, Array.size_append]); omega) _ | with_reducible refine Gr.drew ?_))), s3.up (Gr.below (by repeat (first | (with_reducible exact hG) | with_reducible refine Gr.alloc ?_ _ | with_reducible refine Gr.more ?_ _ _ | with_reducible refine Gr.setCell ?_ (by dsimp only; (try simp only [World.size_more, World.size_alloc, World.size_setCell, World.size_drew, Array.size_append]); omega) _ | with_reducible refine Gr.drew ?_))), s4.up (Gr.below (by repeat (first | (with_reducible exact hG) | with_reducible refine Gr.alloc ?_ _ | with_reducible refine Gr.more ?_ _ _ | with_reducible refine Gr.setCell ?_ (by dsimp only; (try simp only [World.size_more, World.size_alloc, World.size_setCell, World.size_drew, Array.size_append]); omega) _ | with_reducible refine Gr.drew ?_))), g3.trans ((Gr.below (by repeat (first | (with_reducible exact hG) | with_reducible refine Gr.alloc ?_ _ | with_reducible refine Gr.more ?_ _ _ | with_reducible refine Gr.setCell ?_ (by dsimp only; (try simp only [World.size_more, World.size_alloc, World.size_setCell, World.size_drew, Array.size_append]); omega) _ | with_reducible refine Gr.drew ?_))).mono g3.size)⟩ ?_
  rintro W ⟨z0, z1, z2, r1, r2, r3, r4, gW⟩
  clear s1 s2 s3 s4 t1 t2 hL1 hL2 hL3 g2 g3 hG SN SW RS
  generalize w3.heap.size = Z at *
  have SI1 := SI W q q' d d' r2 r4
  clear SI r2 r4
  go_wp2_with (go_at_call 15; (with_reducible refine SI1.mono ?_); rintro e w5 ⟨rfl, n5, rfl⟩)
  have hN9' : (N : Int) ≤ 2049 := by omega
  go_loopw [8] (fun i wr => ∃ (k : Nat), k ≤ N ∧ i = .int .i64 (k : Int) ∧ ∃ n, wr = W.drewN n) (fun i _ => N - (intOf i).toNat)
  case atStart => exact ⟨0, Nat.zero_le _, rfl, n5, rfl⟩
  case round =>
    obtain ⟨k, hk, rfl, n, rfl⟩ := hrel
    by_cases hlt : k < N
    · have hlt' : (k : Int) < (N : Int) := by omega
      have hk0 : (0 : Int) ≤ (k : Int) := by omega
      have HW1 : Hid (wrap64 ((k : Int) + 1) = ((k + 1 : Nat) : Int)) := Lib.hid (wr_s (by omega) (by omega))
      have m0 := HR.out k 0 (by decide) hlt
      have m1 := HR.out k 1 (by decide) hlt
      have m2 := HR.out k 2 (by decide) hlt
      have m3 := HR.out k 3 (by decide) hlt
      unfold inC at m0 m1 m2 m3
      simp only [List.getElem?_cons_zero, List.getElem?_cons_succ, Nat.add_zero] at m0 m1 m2 m3
      have hne : R ≠ [] := by intro e; rw [e] at m0; simp at m0
      obtain ⟨g1, o1, rfl, e1⟩ := seqAt_neK r1 hne
      obtain ⟨g2, o2, rfl, e2⟩ := seqAt_neK r3 hne
      have x0 := e1 _ _ m0
      have x1 := e1 _ _ m1
      have x2 := e1 _ _ m2
      have x3 := e1 _ _ m3
      have y0 := e2 _ _ m0
      have y1 := e2 _ _ m1
      have y2 := e2 _ _ m2
      have y3 := e2 _ _ m3
      have lb1 := lt_of_cell x0
      have lb2 := lt_of_cell y0
      rw [← Nat.add_assoc] at x1 x2 x3 y1 y2 y3
      clear r1 r3 e1 e2 m0 m1 m2 m3 hne HR
      generalize oD (b.drop (ofS b k)) = o' at *
      generalize aD (b.drop (ofS b k)) = a' at *
      generalize bD (b.drop (ofS b k)) = b' at *
      generalize iD (b.drop (ofS b k)) = i' at *
      go_upto_region 9 with fail
      try dsimp only
      go_quiet (fail)
      go_wp2_with fail
      go_roundw
      case rel => exact ⟨k + 1, hlt, by first | (rw [HW1.out]; done) | (push_cast; rfl), _, by first | rfl | exact World.drewN_drewN _ _ _⟩
      case measure => first | (simp only [intOf, HW1.out]; omega) | (simp only [intOf]; omega)
    · have hge : ¬ (k : Int) < (N : Int) := by omega
      go_wp2_with fail
      go_ret
      exact ⟨rfl, gW.trans ((grDrewN (Gr.refl W) n).below.mono gW.size)⟩
end Go.Proofs.YtjlbcpmfbokinaaGreatDoor
