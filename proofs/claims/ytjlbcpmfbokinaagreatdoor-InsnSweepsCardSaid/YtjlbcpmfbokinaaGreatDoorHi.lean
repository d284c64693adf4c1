/-
  Layer 2, contracts: Sweep.
-/
import Derived.Test.YtjlbcpmfbokinaaGreatDoorHh
import Derived.Test.YtjlbcpmfbokinaaGreatDoorJm
set_option linter.unusedSimpArgs false
set_option linter.unusedVariables false
namespace Go.Proofs.YtjlbcpmfbokinaaGreatDoor
open Go.RowKit

set_option maxRecDepth 100000 in
set_option maxHeartbeats 8000000 in
theorem sweep_any (b : List UInt8) (bp : Option Addr) (bc : Nat) (w : World) (hT : TB w) (hb : SeqAt w bp (bV b)) (hcap : b.length ≤ bc) : Calls Tryz.prog 25 #[.slice bp b.length bc] w fun e w' => ∃ u v, e = .returned (.tuple #[u, v, .int .i64 (swE b)]) ∧ SwA b w' u v ∧ Below w.heap.size w w' := by
  by_cases hlong : 2048 < b.length
  · have hl' : (2048 : Int) < (b.length : Int) := by omega
    obtain ⟨e1, e2⟩ := swE_long hlong
    rw [e1]
    have HA := Lib.hid (fun W : World => SwA.nil (b := b) (W := W) e2)
    clear hb hT hcap hlong e1 e2
    go_enter Tryz.func25, Tryz.ntmps25
    go_wp2_with fail
    refine bodyPost_ret (v := .tuple #[.slice none 0 0, .slice none 0 0, .int .i64 2]) (by simp [results, go_sem, *]) rfl ?_
    exact ⟨_, _, rfl, HA.out _, (Gr.below (by repeat (first | (with_reducible exact Gr.refl _) | with_reducible refine Gr.alloc ?_ _ | with_reducible refine Gr.more ?_ _ _ | with_reducible refine Gr.setCell ?_ (by dsimp only; omega) _ | with_reducible refine Gr.drew ?_)))⟩
  have hl' : ¬ (2048 : Int) < (b.length : Int) := by omega
  have hl2 : (b.length : Int) ≤ 2048 := by omega
  have HT : ∀ W, Below w.heap.size w W → TB W := fun W g => hT.up g
  have HT := Lib.hid HT
  have HB : ∀ W, Below w.heap.size w W → SeqAt W bp (bV b) := fun W g => hb.up g
  have HB := Lib.hid HB
  have HOK := Lib.hid (fun k => swE_ok (k := k) hlong)
  have HBAD := Lib.hid (fun k => swE_bad (k := k) hlong)
  obtain ⟨i0, hi, hz0, hz1, hz2⟩ := info_parts A_infoI
  obtain ⟨i1, ki, kz0, kz1, kz2⟩ := info_parts A_infoN
  have hcap' : (b.length : Int) ≤ (bc : Int) := by omega
  clear hT hb
  go_enter Tryz.func25, Tryz.ntmps25
  go_wp2_with fail
  go_loopw [5, 6, 7] (fun l o i wr => ∃ (u v : Value) (k : Nat), u = l ∧ v = o ∧ i = .int .i64 (ofS b k : Int) ∧ Hid (PreS b k) ∧ wr.ownsRow w.heap.size 23 4 u k (inR b k) ∧ wr.ownsRow w.heap.size 3 1 v k (ofR b k) ∧ w.heap.size ≤ wr.heap.size ∧ Below w.heap.size w wr) (fun _ _ i _ => b.length - (intOf i).toNat)
  case atStart => exact ⟨_, _, 0, rfl, rfl, rfl, Lib.hid (fun j hj => absurd hj (Nat.not_lt_zero j)), World.ownsRow_nil _ _ _ _, World.ownsRow_nil _ _ _ _, Nat.le_refl _, Below.refl _ _⟩
  case round =>
    obtain ⟨u, v, k, rfl, rfl, rfl, hp, ow1, ow2, hz, hB⟩ := hrel
    obtain ⟨b1, b2⟩ := ofS_bd hp.out
    by_cases hlt : ofS b k < b.length
    · have hlt' : (ofS b k : Int) < (b.length : Int) := by omega
      have hlc : (ofS b k : Int) ≤ (bc : Int) := by omega
      have h0 : (0 : Int) ≤ (ofS b k : Int) := by omega
      obtain ⟨g0, o0, rfl, hc0⟩ := seqAt_neK (HB.out wr hB) (by intro e; have := congrArg List.length e; rw [bV_len] at this; simp at this; rw [this] at hlt; simp at hlt)
      have DE : Calls Tryz.prog 23 #[.slice (some ⟨g0, o0 + ofS b k, none⟩) (b.length - ofS b k) (bc - ofS b k)] wr fun e w' => DecR (b.drop (ofS b k)) e ∧ Below wr.heap.size wr w' := by
        have := decode_any (b.drop (ofS b k)) (some ⟨g0, o0 + ofS b k, none⟩) (bc - ofS b k) wr (HT.out wr hB) (seq_drop (HB.out wr hB) _ (Nat.le_of_lt hlt)) (by rw [List.length_drop]; omega)
        rwa [List.length_drop] at this
      unfold DecR at DE
      have hn := fun h => nD_le (b := b.drop (ofS b k)) h
      rw [List.length_drop] at hn
      have HN := Lib.hid hn
      have HI := Lib.hid (inR_succ b k)
      have HO := Lib.hid (ofR_succ b k)
      have HS := Lib.hid (show ofS b (k + 1) = ofS b k + nD (b.drop (ofS b k)) from rfl)
      have HNX := Lib.hid (fun h2 => hp.out.next hlt h2)
      have HB2 := Lib.hid (fun h2 => HBAD.out k hp.out hlt h2)
      unfold inC at HI
      have k2 : k ≤ 2048 := by omega
      clear hc0 hn hp HBAD HOK
      obtain ⟨at1, hat1⟩ : ∃ x, ofS b (k + 1) = x := ⟨_, rfl⟩
      rw [hat1] at HS
      have HAT := Lib.hid hat1
      clear hat1
      generalize oD (b.drop (ofS b k)) = o' at *
      generalize aD (b.drop (ofS b k)) = a' at *
      generalize bD (b.drop (ofS b k)) = b' at *
      generalize iD (b.drop (ofS b k)) = i' at *
      generalize nD (b.drop (ofS b k)) = n' at *
      generalize eD (b.drop (ofS b k)) = e' at *
      generalize ofS b k = at0 at *
      have hsl1 : (at0 : Int) ≤ (b.length : Int) := by omega
      have hT1 : ((b.length : Int) - (at0 : Int)).toNat = b.length - at0 := by omega
      have hT2 : ((bc : Int) - (at0 : Int)).toNat = bc - at0 := by omega
      have hG : Gr wr.heap.size wr wr := Gr.refl wr
      clear hG
      go_upto_region 8 with (go_at_call 23; (refine DE.mono ?_); rintro e w1 ⟨rfl, hL1⟩)
      have hG : Gr wr.heap.size wr w1 := ⟨hL1, hL1.size⟩
      have hG2 : Gr w.heap.size w w1 := ⟨hB.trans (hL1.mono hB.size), Nat.le_trans hz hL1.size⟩
      have lz1 : w.heap.size ≤ w1.heap.size := hG2.size
      clear DE hL1
      by_cases he : e' = 0
      · have hne : (e' != 0) = false := by rw [he]; rfl
        obtain ⟨n1, n2⟩ := HN.out he
        have hnx := Lib.hid (HNX.out he)
        have hS := HS.out
        clear HN HNX HB2
        go_upto_region 10 with fail
        refine wp_gen (fun W => W.cell? ⟨w1.heap.size, 0, none⟩ = some (.int .i64 o') ∧ W.cell? ⟨w1.heap.size, 1, none⟩ = some (.int .i64 a') ∧ W.cell? ⟨w1.heap.size, 2, none⟩ = some (.int .i64 b') ∧ W.cell? ⟨w1.heap.size, 3, none⟩ = some (.int .i64 i') ∧ W.ownsRow w.heap.size 23 4 u k (inR b k) ∧ W.ownsRow w.heap.size 3 1 v k (ofR b k) ∧ w1.heap.size < W.heap.size ∧ w.heap.size ≤ W.heap.size ∧ Below w.heap.size w W) ⟨by go_simp, by go_simp, by go_simp, by go_simp, own_belowS ow1 (Gr.below (by repeat (first | (with_reducible exact hG) | with_reducible refine Gr.alloc ?_ _ | with_reducible refine Gr.more ?_ _ _ | with_reducible refine Gr.setCell ?_ (by dsimp only; (try simp only [World.size_more, World.size_alloc, World.size_setCell, World.size_drew, Array.size_append]); omega) _ | with_reducible refine Gr.drew ?_))), own_belowS ow2 (Gr.below (by repeat (first | (with_reducible exact hG) | with_reducible refine Gr.alloc ?_ _ | with_reducible refine Gr.more ?_ _ _ | with_reducible refine Gr.setCell ?_ (by dsimp only; (try simp only [World.size_more, World.size_alloc, World.size_setCell, World.size_drew, Array.size_append]); omega) _ | with_reducible refine Gr.drew ?_))), by (try simp only [World.size_more, World.size_alloc, World.size_setCell, World.size_drew, Array.size_append]); omega, by (try simp only [World.size_more, World.size_alloc, World.size_setCell, World.size_drew, Array.size_append]); omega, Gr.below (by repeat (first | (with_reducible exact hG2) | with_reducible refine Gr.alloc ?_ _ | with_reducible refine Gr.more ?_ _ _ | with_reducible refine Gr.setCell ?_ (by dsimp only; (try simp only [World.size_more, World.size_alloc, World.size_setCell, World.size_drew, Array.size_append]); omega) _ | with_reducible refine Gr.drew ?_))⟩ ?_
        rintro W ⟨x0, x1, x2, x3, r1, r2, z1, z2, gW⟩
        clear ow1 ow2 hG hG2 lz1 hB hz
        have ap := own_apartS r2 r1 (by decide)
        have ge1 : ∀ g, u.ownBlock = some g → w.heap.size ≤ g := fun g h => (own_ge r1 h).1
        have ge2 : ∀ g, v.ownBlock = some g → w.heap.size ≤ g := fun g h => (own_ge r2 h).1
        go_upto_region 11 with (at_builtin; refine wpList_append_own _ rfl _ _ 48 rfl w.heap.size 23 i0 _ 4 32 Tryz.underlying48 hi hz0 hz1 hz2 (by rfl) (by decide) u k (inR b k) rfl (own_belowS r1 ((Below.refl _ _).alloc (Nat.le_refl _) _)) ⟨W.heap.size, 0, none⟩ 1 1 [.int .i64 o', .int .i64 a', .int .i64 b', .int .i64 i'] rfl (by rfl) (World.news_of_block (World.alloc_heap_new _ _)) (by intro u hu; simp at hu; rcases hu with rfl | rfl | rfl | rfl <;> rfl) (by unfold maxLen; omega) (by omega) (by simp; omega) ?_; intro u5 w5 hown5 hg5 _)
        have B5 : Below w.heap.size w w5 := (gW.alloc z2 _).grown hg5 (by simp; omega) (fun j hj => ge1 j hj)
        have z5 : w.heap.size ≤ w5.heap.size := by have := hg5.size; simp at this; omega
        have r5 := own_grownS hg5 (own_belowS r2 ((Below.refl _ _).alloc (Nat.le_refl _) _)) ap
        rw [← HI.out] at hown5
        have ap5 := own_apartS hown5 r5 (by decide)
        clear r1 r2 hg5 ap ge1 gW x0 x1 x2 x3 z1 z2 HI
        go_upto_region 12 with (at_builtin; refine wpList_append_own _ rfl _ _ 34 rfl w.heap.size 3 i1 _ 1 8 Tryz.underlying34 ki kz0 kz1 kz2 (by rfl) (by decide) v k (ofR b k) rfl (own_belowS r5 ((Below.refl _ _).alloc (Nat.le_refl _) _)) ⟨w5.heap.size, 0, none⟩ 1 1 [.int .i64 (at0 : Int)] rfl (by rfl) (World.news_of_block (World.alloc_heap_new _ _)) (by intro u hu; simp at hu; rcases hu with rfl; rfl) (by unfold maxLen; omega) (by omega) (by simp; omega) ?_; intro v6 w6 hown6 hg6 _)
        have B6 : Below w.heap.size w w6 := (B5.alloc z5 _).grown hg6 (by simp; omega) (fun j hj => ge2 j hj)
        have z6 : w.heap.size ≤ w6.heap.size := by have := hg6.size; simp at this; omega
        have r6 := own_grownS hg6 (own_belowS hown5 ((Below.refl _ _).alloc (Nat.le_refl _) _)) ap5
        rw [← HO.out] at hown6
        clear r5 hg6 ap5 ge2 B5 z5 hown5 HO
        have HWS : Hid (wrap64 ((at0 : Int) + (n' : Int)) = (at1 : Int)) := Lib.hid ((wr_s (by omega) (by omega)).trans (by omega))
        have HA1 : Hid ((at0 : Int) + (n' : Int) = (at1 : Int)) := Lib.hid (by omega)
        have HM : Hid (b.length - at1 < b.length - at0) := Lib.hid (by omega)
        have ha1 := HA1.out
        clear hS hne
        go_wp2_with fail
        exact ⟨⟨_, _, k + 1, rfl, rfl, by rw [HAT.out], hnx, r6, hown6, z6, B6⟩, by simp only [intOf]; exact HM.out⟩
      · have hne : (e' != 0) = true := by simpa using he
        obtain ⟨q1, q2⟩ := HB2.out he
        have HA := Lib.hid (fun W : World => SwA.nil (b := b) (W := W) q2)
        have HQ := Lib.hid q1
        clear HN HNX HB2 HI HO HS ow1 ow2 q1 q2 he
        go_wp2_with fail
        refine bodyPost_ret (v := .tuple #[.slice none 0 0, .slice none 0 0, .int .i64 e']) (by simp [results, go_sem, *]) rfl ?_
        exact ⟨_, _, by rw [HQ.out], HA.out _, Gr.below (by repeat (first | (with_reducible exact hG2) | with_reducible refine Gr.alloc ?_ _ | with_reducible refine Gr.more ?_ _ _ | with_reducible refine Gr.setCell ?_ (by dsimp only; (try simp only [World.size_more, World.size_alloc, World.size_setCell, World.size_drew, Array.size_append]); omega) _ | with_reducible refine Gr.drew ?_))⟩
    · have hge : ¬ (ofS b k : Int) < (b.length : Int) := by omega
      obtain ⟨e1, e2⟩ := HOK.out k hp.out hlt
      have HA := Lib.hid (SwA.row e2 ow1 ow2)
      have HQ := Lib.hid e1
      clear HOK HBAD HT HB ow1 ow2 e1 e2 hp b1 b2
      go_wp2_with fail
      refine bodyPost_ret (v := .tuple #[u, v, .int .i64 0]) (by simp [results, go_sem, *]) rfl ?_
      exact ⟨_, _, by rw [HQ.out], HA.out, hB⟩
end Go.Proofs.YtjlbcpmfbokinaaGreatDoor
