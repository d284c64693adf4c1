/-
  Layer 2, the reference: Sweep (made by genhj.py).
-/
import Derived.Test.YtjlbcpmfbokinaaGreatDoorHh
import Derived.Test.YtjlbcpmfbokinaaGreatDoorJm
set_option linter.unusedSimpArgs false
set_option linter.unusedVariables false
namespace Go.Proofs.YtjlbcpmfbokinaaGreatDoor
open Go.RowKit

set_option maxRecDepth 100000 in
set_option maxHeartbeats 8000000 in
theorem rsweep_any (b : List UInt8) (bp : Option Addr) (bc : Nat) (w : World) (hb : SeqAt w bp (bV b)) (hcap : b.length ≤ bc) : Calls Tryz.prog 26 #[.slice bp b.length bc] w fun e w' => ∃ u v, e = .returned (.agg #[u, v, .int .i64 (swE b)]) ∧ SwA b w' u v ∧ Below w.heap.size w w' := by
  by_cases hlong : 2048 < b.length
  · have hl' : (2048 : Int) < (b.length : Int) := by omega
    obtain ⟨e1, e2⟩ := swE_long hlong
    rw [e1]
    have HA := Lib.hid (fun W : World => SwA.nil (b := b) (W := W) e2)
    clear hb hcap hlong e1 e2
    go_enter Tryz.func26, Tryz.ntmps26
    go_wp2_with fail
    refine bodyPost_ret (v := .agg #[.slice none 0 0, .slice none 0 0, .int .i64 2]) (by simp [results, go_sem, *]) rfl ?_
    exact ⟨_, _, rfl, HA.out _, (Gr.below (by repeat (first | (with_reducible exact Gr.refl _) | with_reducible refine Gr.alloc ?_ _ | with_reducible refine Gr.more ?_ _ _ | with_reducible refine Gr.setCell ?_ (by dsimp only; omega) _ | with_reducible refine Gr.drew ?_)))⟩
  have hl' : ¬ (2048 : Int) < (b.length : Int) := by omega
  have hl2 : (b.length : Int) ≤ 2048 := by omega
  have HB : ∀ W, Below w.heap.size w W → SeqAt W bp (bV b) := fun W g => hb.up g
  have HB := Lib.hid HB
  have HOK := Lib.hid (fun k => swE_ok (k := k) hlong)
  have HBAD := Lib.hid (fun k => swE_bad (k := k) hlong)
  obtain ⟨i0, hi, hz0, hz1, hz2⟩ := info_parts A_infoI
  obtain ⟨i1, ki, kz0, kz1, kz2⟩ := info_parts A_infoN
  have hcap' : (b.length : Int) ≤ (bc : Int) := by omega
  clear hb
  go_enter Tryz.func26, Tryz.ntmps26
  go_wp2_with fail
  go_loopw [4] (fun i wr => ∃ (u v : Value) (k : Nat), i = .int .i64 (ofS b k : Int) ∧ Hid (PreS b k) ∧ wr.cell? ⟨w.heap.size, 0, none⟩ = some (.slice none 0 0) ∧ wr.cell? ⟨w.heap.size, 1, none⟩ = some (.slice none 0 0) ∧ wr.cell? ⟨w.heap.size, 2, none⟩ = some (.int .i64 0) ∧ wr.frozen? ⟨w.heap.size, 0, none⟩ = false ∧ wr.frozen? ⟨w.heap.size, 1, none⟩ = false ∧ wr.frozen? ⟨w.heap.size, 2, none⟩ = false ∧ wr.cell? ⟨w.heap.size + 1, 0, none⟩ = some u ∧ wr.cell? ⟨w.heap.size + 1, 1, none⟩ = some v ∧ wr.cell? ⟨w.heap.size + 1, 2, none⟩ = some (.int .i64 0) ∧ wr.frozen? ⟨w.heap.size + 1, 0, none⟩ = false ∧ wr.frozen? ⟨w.heap.size + 1, 1, none⟩ = false ∧ wr.ownsRow (w.heap.size + 2) 23 4 u k (inR b k) ∧ wr.ownsRow (w.heap.size + 2) 3 1 v k (ofR b k) ∧ w.heap.size + 2 ≤ wr.heap.size ∧ Gr w.heap.size w wr) (fun i _ => b.length - (intOf i).toNat)
  case atStart => exact ⟨.slice none 0 0, .slice none 0 0, 0, rfl, Lib.hid (fun j hj => absurd hj (Nat.not_lt_zero j)), by go_simp, by go_simp, by go_simp, by go_simp, by go_simp, by go_simp, by go_simp, by go_simp, by go_simp, by go_simp, by go_simp, World.ownsRow_nil _ _ _ _, World.ownsRow_nil _ _ _ _, by (try simp only [World.size_more, World.size_alloc, World.size_setCell, World.size_drew, Array.size_append]); omega, (by repeat (first | (with_reducible exact Gr.refl _) | with_reducible refine Gr.alloc ?_ _ | with_reducible refine Gr.more ?_ _ _ | with_reducible refine Gr.setCell ?_ (by dsimp only; (try simp only [World.size_more, World.size_alloc, World.size_setCell, World.size_drew, Array.size_append]); omega) _ | with_reducible refine Gr.drew ?_))⟩
  case round =>
    obtain ⟨u, v, k, rfl, hp, d0, d1, d2, e0, e1, e2, q0, q1, q2, f0, f1, ow1, ow2, hz, hB⟩ := hrel
    obtain ⟨b1, b2⟩ := ofS_bd hp.out
    have lw0 : w.heap.size < wr.heap.size := by omega
    have lw1 : w.heap.size + 1 < wr.heap.size := by omega
    by_cases hlt : ofS b k < b.length
    · have hlt' : (ofS b k : Int) < (b.length : Int) := by omega
      have hlc : (ofS b k : Int) ≤ (bc : Int) := by omega
      have h0 : (0 : Int) ≤ (ofS b k : Int) := by omega
      obtain ⟨g0, o0, rfl, hc0⟩ := seqAt_neK (HB.out wr hB.below) (by intro e; have := congrArg List.length e; rw [bV_len] at this; simp at this; rw [this] at hlt; simp at hlt)
      have DE : Calls Tryz.prog 24 #[.slice (some ⟨g0, o0 + ofS b k, none⟩) (b.length - ofS b k) (bc - ofS b k)] wr fun e w' => RDec (b.drop (ofS b k)) e ∧ Below wr.heap.size wr w' := by
        have := rdecode_any (b.drop (ofS b k)) (some ⟨g0, o0 + ofS b k, none⟩) (bc - ofS b k) wr (seq_drop (HB.out wr hB.below) _ (Nat.le_of_lt hlt)) (by rw [List.length_drop]; omega)
        rwa [List.length_drop] at this
      unfold RDec at DE
      have hn := fun h => nD_le (b := b.drop (ofS b k)) h
      rw [List.length_drop] at hn
      have HN := Lib.hid hn
      have HI := Lib.hid (inR_succ b k)
      have HO := Lib.hid (ofR_succ b k)
      have HS := Lib.hid (show ofS b (k + 1) = ofS b k + nD (b.drop (ofS b k)) from rfl)
      have HNX := Lib.hid (fun h2 => hp.out.next hlt h2)
      have HB2 := Lib.hid (fun h2 => HBAD.out k hp.out hlt h2)
      unfold inC at HI
      have k2 : k ≤ 2048 := by omega
      clear hc0 hn hp HBAD HOK
      obtain ⟨at1, hat1⟩ : ∃ x, ofS b (k + 1) = x := ⟨_, rfl⟩
      rw [hat1] at HS
      have HAT := Lib.hid hat1
      clear hat1
      generalize oD (b.drop (ofS b k)) = o' at *
      generalize aD (b.drop (ofS b k)) = a' at *
      generalize bD (b.drop (ofS b k)) = b' at *
      generalize iD (b.drop (ofS b k)) = i' at *
      generalize nD (b.drop (ofS b k)) = n' at *
      generalize eD (b.drop (ofS b k)) = e' at *
      generalize ofS b k = at0 at *
      have hsl1 : (at0 : Int) ≤ (b.length : Int) := by omega
      have hT1 : ((b.length : Int) - (at0 : Int)).toNat = b.length - at0 := by omega
      have hT2 : ((bc : Int) - (at0 : Int)).toNat = bc - at0 := by omega
      go_upto_region 7 with (go_at_call 24; (refine DE.mono ?_); rintro e w1 ⟨rfl, hb⟩; obtain ⟨os, nn, rfl⟩ := Below.moreE hb; clear hb)
      have hG : Gr wr.heap.size wr wr := Gr.refl wr
      clear DE
      by_cases he : e' = 0
      · have hne : (e' != 0) = false := by rw [he]; rfl
        obtain ⟨n1, n2⟩ := HN.out he
        have hnx := Lib.hid (HNX.out he)
        have hS := HS.out
        clear HN HNX HB2
        go_upto_region 9 with fail
        refine wp_gen (fun W => W.cell? ⟨wr.heap.size + os.size, 0, none⟩ = some (.int .i64 o') ∧ W.cell? ⟨wr.heap.size + os.size, 1, none⟩ = some (.int .i64 a') ∧ W.cell? ⟨wr.heap.size + os.size, 2, none⟩ = some (.int .i64 b') ∧ W.cell? ⟨wr.heap.size + os.size, 3, none⟩ = some (.int .i64 i') ∧ W.cell? ⟨wr.heap.size + os.size, 4, none⟩ = some (.int .i64 (n' : Int)) ∧ W.cell? ⟨w.heap.size, 0, none⟩ = some (.slice none 0 0) ∧ W.cell? ⟨w.heap.size, 1, none⟩ = some (.slice none 0 0) ∧ W.cell? ⟨w.heap.size, 2, none⟩ = some (.int .i64 0) ∧ W.frozen? ⟨w.heap.size, 0, none⟩ = false ∧ W.frozen? ⟨w.heap.size, 1, none⟩ = false ∧ W.frozen? ⟨w.heap.size, 2, none⟩ = false ∧ W.cell? ⟨w.heap.size + 1, 0, none⟩ = some u ∧ W.cell? ⟨w.heap.size + 1, 1, none⟩ = some v ∧ W.cell? ⟨w.heap.size + 1, 2, none⟩ = some (.int .i64 0) ∧ W.frozen? ⟨w.heap.size + 1, 0, none⟩ = false ∧ W.frozen? ⟨w.heap.size + 1, 1, none⟩ = false ∧ W.ownsRow (w.heap.size + 2) 23 4 u k (inR b k) ∧ W.ownsRow (w.heap.size + 2) 3 1 v k (ofR b k) ∧ (wr.heap.size + os.size) < W.heap.size ∧ w.heap.size + 2 ≤ W.heap.size ∧ Gr w.heap.size w W) ⟨by go_simp, by go_simp, by go_simp, by go_simp, by go_simp, by go_simp, by go_simp, by go_simp, by go_simp, by go_simp, by go_simp, by go_simp, by go_simp, by go_simp, by go_simp, by go_simp, own_belowS ow1 (Gr.below (by repeat (first | (with_reducible exact hG) | with_reducible refine Gr.alloc ?_ _ | with_reducible refine Gr.more ?_ _ _ | with_reducible refine Gr.setCell ?_ (by dsimp only; (try simp only [World.size_more, World.size_alloc, World.size_setCell, World.size_drew, Array.size_append]); omega) _ | with_reducible refine Gr.drew ?_))), own_belowS ow2 (Gr.below (by repeat (first | (with_reducible exact hG) | with_reducible refine Gr.alloc ?_ _ | with_reducible refine Gr.more ?_ _ _ | with_reducible refine Gr.setCell ?_ (by dsimp only; (try simp only [World.size_more, World.size_alloc, World.size_setCell, World.size_drew, Array.size_append]); omega) _ | with_reducible refine Gr.drew ?_))), by (try simp only [World.size_more, World.size_alloc, World.size_setCell, World.size_drew, Array.size_append]); omega, by (try simp only [World.size_more, World.size_alloc, World.size_setCell, World.size_drew, Array.size_append]); omega, (by repeat (first | (with_reducible exact hB) | with_reducible refine Gr.alloc ?_ _ | with_reducible refine Gr.more ?_ _ _ | with_reducible refine Gr.setCell ?_ (by dsimp only; (try simp only [World.size_more, World.size_alloc, World.size_setCell, World.size_drew, Array.size_append]); omega) _ | with_reducible refine Gr.drew ?_))⟩ ?_
        rintro W ⟨x0, x1, x2, x3, x4, d0, d1, d2, e0, e1, e2, q0, q1, q2, f0, f1, r1, r2, z1, z2, gW⟩
        have lw0' : w.heap.size < W.heap.size := by omega
        have lw1' : w.heap.size + 1 < W.heap.size := by omega
        have neZ : some (wr.heap.size + os.size) ≠ u.ownBlock ∧ some (wr.heap.size + os.size) ≠ v.ownBlock := ⟨fun e => by have := (own_ge ow1 e.symm).2; omega, fun e => by have := (own_ge ow2 e.symm).2; omega⟩
        generalize wr.heap.size + os.size = Z at *
        clear ow1 ow2 hG hB hz lw0 lw1 HB
        have ap := own_apartS r2 r1 (by decide)
        have ge1 : ∀ g, u.ownBlock = some g → w.heap.size + 2 ≤ g := fun g h => (own_ge r1 h).1
        have ge2 : ∀ g, v.ownBlock = some g → w.heap.size + 2 ≤ g := fun g h => (own_ge r2 h).1
        have lZ := lt_of_cell x4
        go_upto_region 10 with (at_builtin; refine wpList_append_own _ rfl _ _ 48 rfl (w.heap.size + 2) 23 i0 _ 4 32 Tryz.underlying48 hi hz0 hz1 hz2 (by rfl) (by decide) u k (inR b k) rfl (own_belowS r1 ((Below.refl _ _).alloc (Nat.le_refl _) _)) ⟨W.heap.size, 0, none⟩ 1 1 [.int .i64 o', .int .i64 a', .int .i64 b', .int .i64 i'] rfl (by rfl) (World.news_of_block (World.alloc_heap_new _ _)) (by intro u hu; simp at hu; rcases hu with rfl | rfl | rfl | rfl <;> rfl) (by unfold maxLen; omega) (by omega) (by simp; omega) ?_; intro u5 w5 hown5 hg5 _; obtain ⟨s5, t5, rfl⟩ := own_sl hown5; have hnhg5 : ∀ b, b < w.heap.size + 2 → some b ≠ u.ownBlock := (fun b hb e => by have := ge1 b e.symm; omega); have d05 : w5.cell? ⟨w.heap.size, 0, none⟩ = some (.slice none 0 0) := grown_cell hg5 (by go_simp) (hnhg5 _ (by omega)); have d15 : w5.cell? ⟨w.heap.size, 1, none⟩ = some (.slice none 0 0) := grown_cell hg5 (by go_simp) (hnhg5 _ (by omega)); have d25 : w5.cell? ⟨w.heap.size, 2, none⟩ = some (.int .i64 0) := grown_cell hg5 (by go_simp) (hnhg5 _ (by omega)); have e05 : w5.frozen? ⟨w.heap.size, 0, none⟩ = false := grown_fz hg5 (by simp; omega) (by go_simp) (hnhg5 _ (by omega)); have e15 : w5.frozen? ⟨w.heap.size, 1, none⟩ = false := grown_fz hg5 (by simp; omega) (by go_simp) (hnhg5 _ (by omega)); have e25 : w5.frozen? ⟨w.heap.size, 2, none⟩ = false := grown_fz hg5 (by simp; omega) (by go_simp) (hnhg5 _ (by omega)); have q05 : w5.cell? ⟨w.heap.size + 1, 0, none⟩ = some u := grown_cell hg5 (by go_simp) (hnhg5 _ (by omega)); have q15 : w5.cell? ⟨w.heap.size + 1, 1, none⟩ = some v := grown_cell hg5 (by go_simp) (hnhg5 _ (by omega)); have q25 : w5.cell? ⟨w.heap.size + 1, 2, none⟩ = some (.int .i64 0) := grown_cell hg5 (by go_simp) (hnhg5 _ (by omega)); have f05 : w5.frozen? ⟨w.heap.size + 1, 0, none⟩ = false := grown_fz hg5 (by simp; omega) (by go_simp) (hnhg5 _ (by omega)); have f15 : w5.frozen? ⟨w.heap.size + 1, 1, none⟩ = false := grown_fz hg5 (by simp; omega) (by go_simp) (hnhg5 _ (by omega)); have xx5 : w5.cell? ⟨Z, 4, none⟩ = some (.int .i64 (n' : Int)) := grown_cell hg5 (by go_simp) neZ.1; have B5 : Gr w.heap.size w w5 := ⟨(gW.below.alloc (by omega) _).grown hg5 (by simp; omega) (fun j hj => by have := ge1 j hj; omega), by have := hg5.size; simp at this; omega⟩; have z5 : w.heap.size + 2 ≤ w5.heap.size := (by have := hg5.size; simp at this; omega); have l50 : w.heap.size < w5.heap.size := (by omega); have l51 : w.heap.size + 1 < w5.heap.size := (by omega); have r5 := own_grownS hg5 (own_belowS r2 ((Below.refl _ _).alloc (Nat.le_refl _) _)) ap)
        rw [← HI.out] at hown5
        refine wp_gen (fun W => W.cell? ⟨w.heap.size, 0, none⟩ = some (.slice none 0 0) ∧ W.cell? ⟨w.heap.size, 1, none⟩ = some (.slice none 0 0) ∧ W.cell? ⟨w.heap.size, 2, none⟩ = some (.int .i64 0) ∧ W.frozen? ⟨w.heap.size, 0, none⟩ = false ∧ W.frozen? ⟨w.heap.size, 1, none⟩ = false ∧ W.frozen? ⟨w.heap.size, 2, none⟩ = false ∧ W.cell? ⟨w.heap.size + 1, 0, none⟩ = some (.slice s5 (k + 1) t5) ∧ W.cell? ⟨w.heap.size + 1, 1, none⟩ = some v ∧ W.cell? ⟨w.heap.size + 1, 2, none⟩ = some (.int .i64 0) ∧ W.frozen? ⟨w.heap.size + 1, 0, none⟩ = false ∧ W.frozen? ⟨w.heap.size + 1, 1, none⟩ = false ∧ W.cell? ⟨Z, 4, none⟩ = some (.int .i64 (n' : Int)) ∧ W.ownsRow (w.heap.size + 2) 23 4 (.slice s5 (k + 1) t5) (k + 1) (inR b (k + 1)) ∧ W.ownsRow (w.heap.size + 2) 3 1 v k (ofR b k) ∧ w.heap.size + 2 ≤ W.heap.size ∧ Gr w.heap.size w W) ⟨by go_simp, by go_simp, by go_simp, by go_simp, by go_simp, by go_simp, by go_simp, by go_simp, by go_simp, by go_simp, by go_simp, by go_simp, own_setS hown5 (by omega) _ _, own_setS r5 (by omega) _ _, by (try simp only [World.size_more, World.size_alloc, World.size_setCell, World.size_drew, Array.size_append]); omega, (by repeat (first | (with_reducible exact B5) | with_reducible refine Gr.alloc ?_ _ | with_reducible refine Gr.more ?_ _ _ | with_reducible refine Gr.setCell ?_ (by dsimp only; (try simp only [World.size_more, World.size_alloc, World.size_setCell, World.size_drew, Array.size_append]); omega) _ | with_reducible refine Gr.drew ?_))⟩ ?_
        rintro W6 ⟨d0, d1, d2, e0, e1, e2, q0, q1, q2, f0, f1, x4, r1, r2, z2, gW⟩
        have lw0' : w.heap.size < W6.heap.size := by omega
        have lw1' : w.heap.size + 1 < W6.heap.size := by omega
        have ap := own_apartS r1 r2 (by decide)
        have ge2 : ∀ g, v.ownBlock = some g → w.heap.size + 2 ≤ g := fun g h => (own_ge r2 h).1
        have lZ := lt_of_cell x4
        replace neZ := neZ.2
        clear hown5 r5 B5 z5 l50 l51 d05 d15 d25 e05 e15 e25 q05 q15 q25 f05 f15 xx5 hg5 ge1 HI
        go_upto_region 11 with (at_builtin; refine wpList_append_own _ rfl _ _ 34 rfl (w.heap.size + 2) 3 i1 _ 1 8 Tryz.underlying34 ki kz0 kz1 kz2 (by rfl) (by decide) v k (ofR b k) rfl (own_belowS r2 ((Below.refl _ _).alloc (Nat.le_refl _) _)) ⟨W6.heap.size, 0, none⟩ 1 1 [.int .i64 (at0 : Int)] rfl (by rfl) (World.news_of_block (World.alloc_heap_new _ _)) (by intro u hu; simp at hu; rcases hu with rfl; rfl) (by unfold maxLen; omega) (by omega) (by simp; omega) ?_; intro v7 w5 hown5 hg5 _; obtain ⟨s7, t7, rfl⟩ := own_sl hown5; have hnhg5 : ∀ b, b < w.heap.size + 2 → some b ≠ v.ownBlock := (fun b hb e => by have := ge2 b e.symm; omega); have d05 : w5.cell? ⟨w.heap.size, 0, none⟩ = some (.slice none 0 0) := grown_cell hg5 (by go_simp) (hnhg5 _ (by omega)); have d15 : w5.cell? ⟨w.heap.size, 1, none⟩ = some (.slice none 0 0) := grown_cell hg5 (by go_simp) (hnhg5 _ (by omega)); have d25 : w5.cell? ⟨w.heap.size, 2, none⟩ = some (.int .i64 0) := grown_cell hg5 (by go_simp) (hnhg5 _ (by omega)); have e05 : w5.frozen? ⟨w.heap.size, 0, none⟩ = false := grown_fz hg5 (by simp; omega) (by go_simp) (hnhg5 _ (by omega)); have e15 : w5.frozen? ⟨w.heap.size, 1, none⟩ = false := grown_fz hg5 (by simp; omega) (by go_simp) (hnhg5 _ (by omega)); have e25 : w5.frozen? ⟨w.heap.size, 2, none⟩ = false := grown_fz hg5 (by simp; omega) (by go_simp) (hnhg5 _ (by omega)); have q05 : w5.cell? ⟨w.heap.size + 1, 0, none⟩ = some (.slice s5 (k + 1) t5) := grown_cell hg5 (by go_simp) (hnhg5 _ (by omega)); have q15 : w5.cell? ⟨w.heap.size + 1, 1, none⟩ = some v := grown_cell hg5 (by go_simp) (hnhg5 _ (by omega)); have q25 : w5.cell? ⟨w.heap.size + 1, 2, none⟩ = some (.int .i64 0) := grown_cell hg5 (by go_simp) (hnhg5 _ (by omega)); have f05 : w5.frozen? ⟨w.heap.size + 1, 0, none⟩ = false := grown_fz hg5 (by simp; omega) (by go_simp) (hnhg5 _ (by omega)); have f15 : w5.frozen? ⟨w.heap.size + 1, 1, none⟩ = false := grown_fz hg5 (by simp; omega) (by go_simp) (hnhg5 _ (by omega)); have xx5 : w5.cell? ⟨Z, 4, none⟩ = some (.int .i64 (n' : Int)) := grown_cell hg5 (by go_simp) neZ; have B5 : Gr w.heap.size w w5 := ⟨(gW.below.alloc (by omega) _).grown hg5 (by simp; omega) (fun j hj => by have := ge2 j hj; omega), by have := hg5.size; simp at this; omega⟩; have z5 : w.heap.size + 2 ≤ w5.heap.size := (by have := hg5.size; simp at this; omega); have l50 : w.heap.size < w5.heap.size := (by omega); have l51 : w.heap.size + 1 < w5.heap.size := (by omega); have lZ5 := lt_of_cell xx5; have r5 := own_grownS hg5 (own_belowS r1 ((Below.refl _ _).alloc (Nat.le_refl _) _)) ap)
        rw [← HO.out] at hown5
        refine wp_gen (fun W => W.cell? ⟨w.heap.size, 0, none⟩ = some (.slice none 0 0) ∧ W.cell? ⟨w.heap.size, 1, none⟩ = some (.slice none 0 0) ∧ W.cell? ⟨w.heap.size, 2, none⟩ = some (.int .i64 0) ∧ W.frozen? ⟨w.heap.size, 0, none⟩ = false ∧ W.frozen? ⟨w.heap.size, 1, none⟩ = false ∧ W.frozen? ⟨w.heap.size, 2, none⟩ = false ∧ W.cell? ⟨w.heap.size + 1, 0, none⟩ = some (.slice s5 (k + 1) t5) ∧ W.cell? ⟨w.heap.size + 1, 1, none⟩ = some (.slice s7 (k + 1) t7) ∧ W.cell? ⟨w.heap.size + 1, 2, none⟩ = some (.int .i64 0) ∧ W.frozen? ⟨w.heap.size + 1, 0, none⟩ = false ∧ W.frozen? ⟨w.heap.size + 1, 1, none⟩ = false ∧ W.cell? ⟨Z, 4, none⟩ = some (.int .i64 (n' : Int)) ∧ W.ownsRow (w.heap.size + 2) 23 4 (.slice s5 (k + 1) t5) (k + 1) (inR b (k + 1)) ∧ W.ownsRow (w.heap.size + 2) 3 1 (.slice s7 (k + 1) t7) (k + 1) (ofR b (k + 1)) ∧ w.heap.size + 2 ≤ W.heap.size ∧ Gr w.heap.size w W) ⟨by go_simp, by go_simp, by go_simp, by go_simp, by go_simp, by go_simp, by go_simp, by go_simp, by go_simp, by go_simp, by go_simp, by go_simp, own_setS r5 (by omega) _ _, own_setS hown5 (by omega) _ _, by (try simp only [World.size_more, World.size_alloc, World.size_setCell, World.size_drew, Array.size_append]); omega, (by repeat (first | (with_reducible exact B5) | with_reducible refine Gr.alloc ?_ _ | with_reducible refine Gr.more ?_ _ _ | with_reducible refine Gr.setCell ?_ (by dsimp only; (try simp only [World.size_more, World.size_alloc, World.size_setCell, World.size_drew, Array.size_append]); omega) _ | with_reducible refine Gr.drew ?_))⟩ ?_
        rintro W8 ⟨d0, d1, d2, e0, e1, e2, q0, q1, q2, f0, f1, x4, r1, r2, z2, gW⟩
        have lw0' : w.heap.size < W8.heap.size := by omega
        have lw1' : w.heap.size + 1 < W8.heap.size := by omega
        have lZ := lt_of_cell x4
        have HA1 : Hid ((at0 : Int) + (n' : Int) = (at1 : Int)) := Lib.hid (by omega)
        have HM : Hid (b.length - at1 < b.length - at0) := Lib.hid (by omega)
        have ha1 := HA1.out
        clear hown5 r5 B5 z5 l50 l51 d05 d15 d25 e05 e15 e25 q05 q15 q25 f05 f15 xx5 hg5 ge2 HO hS hne
        go_wp2_with fail
        exact ⟨⟨_, _, k + 1, by rw [HAT.out], hnx, d0, d1, d2, e0, e1, e2, q0, q1, q2, f0, f1, r1, r2, z2, gW⟩, by simp only [intOf]; exact HM.out⟩
      · have hne : (e' != 0) = true := by simpa using he
        obtain ⟨q1', q2'⟩ := HB2.out he
        have HA := Lib.hid (fun W : World => SwA.nil (b := b) (W := W) q2')
        have HQ := Lib.hid q1'
        clear HN HNX HB2 HI HO HS ow1 ow2 q1' q2' he
        go_wp2_with fail
        refine bodyPost_ret (v := .agg #[.slice none 0 0, .slice none 0 0, .int .i64 e']) (by simp [results, go_sem, *]) rfl ?_
        exact ⟨_, _, by rw [HQ.out], HA.out _, Gr.below (by repeat (first | (with_reducible exact hB) | with_reducible refine Gr.alloc ?_ _ | with_reducible refine Gr.more ?_ _ _ | with_reducible refine Gr.setCell ?_ (by dsimp only; (try simp only [World.size_more, World.size_alloc, World.size_setCell, World.size_drew, Array.size_append]); omega) _ | with_reducible refine Gr.drew ?_))⟩
    · have hge : ¬ (ofS b k : Int) < (b.length : Int) := by omega
      obtain ⟨e1', e2'⟩ := HOK.out k hp.out hlt
      have HA := Lib.hid (fun x y z => SwA.row (W := ((wr.setCell ⟨w.heap.size, 0, none⟩ x).setCell ⟨w.heap.size, 1, none⟩ y).setCell ⟨w.heap.size, 2, none⟩ z) e2' (own_setS (own_setS (own_setS ow1 (by omega) _ _) (by omega) _ _) (by omega) _ _) (own_setS (own_setS (own_setS ow2 (by omega) _ _) (by omega) _ _) (by omega) _ _))
      have HQ := Lib.hid e1'
      obtain ⟨su, tu, rfl⟩ := own_sl ow1
      obtain ⟨sv, tv, rfl⟩ := own_sl ow2
      have hG : Gr wr.heap.size wr wr := Gr.refl wr
      clear HOK HBAD HB e1' e2' hp b1 b2 ow1 ow2
      go_wp2_with fail
      refine bodyPost_ret (v := .agg #[.slice su k tu, .slice sv k tv, .int .i64 0]) (by simp [results, go_sem, *]) rfl ?_
      exact ⟨_, _, by rw [HQ.out], HA.out _ _ _, Gr.below (by repeat (first | (with_reducible exact hB) | with_reducible refine Gr.alloc ?_ _ | with_reducible refine Gr.more ?_ _ _ | with_reducible refine Gr.setCell ?_ (by dsimp only; (try simp only [World.size_more, World.size_alloc, World.size_setCell, World.size_drew, Array.size_append]); omega) _ | with_reducible refine Gr.drew ?_))⟩
end Go.Proofs.YtjlbcpmfbokinaaGreatDoor
