import Derived.Test.YtojcdjpaojgkkaaGreatDoorPe
namespace Go.Proofs.YtojcdjpaojgkkaaGreatDoor
open Go.RowKit

def hexL (l : List UInt8) : Bool := Lib.hasPrefix l [48, 120]
def restH (l : List UInt8) : List UInt8 := Lib.trimPrefix l [48, 120]
def minL (l : List UInt8) : Bool := Lib.hasPrefix l [45]
def restM (l : List UInt8) : List UInt8 := Lib.trimPrefix l [45]
/-- Does a text stand for a value of the type? -/
def parOK (s : Int) (g : Bool) (l : List UInt8) : Bool :=
  if hexL l = true then hexOK (restH l) && nmOK s g false (valI 16 (restH l))
  else decOK (restM l) && !(minL l && valI 10 (restM l) == 0) && nmOK s g (minL l) (valI 10 (restM l))
/-- The value. -/
def parN (l : List UInt8) : Int := if hexL l = true then nmV false (valI 16 (restH l)) else nmV (minL l) (valI 10 (restM l))

theorem cut_x (s : ByteArray) (w : World) : Calls Tryz.prog 35 #[.string s, .string ⟨#[48, 120]⟩] w fun e w' => e = .returned (.tuple #[.string ⟨(restH s.data.toList).toArray⟩, .bool (hexL s.data.toList)]) ∧ w = w' :=
  (Tryz.strings_CutPrefix s ⟨#[48, 120]⟩ w).mono fun _ _ h => ⟨h.1, h.2.symm⟩
theorem cut_m (s : ByteArray) (w : World) : Calls Tryz.prog 35 #[.string s, .string ⟨#[45]⟩] w fun e w' => e = .returned (.tuple #[.string ⟨(restM s.data.toList).toArray⟩, .bool (minL s.data.toList)]) ∧ w = w' :=
  (Tryz.strings_CutPrefix s ⟨#[45]⟩ w).mono fun _ _ h => ⟨h.1, h.2.symm⟩

theorem trim_le (l p : List UInt8) : (Lib.trimPrefix l p).length ≤ l.length := by
  unfold Lib.trimPrefix
  split
  · simp
  · exact Nat.le_refl _

theorem EV.gr {w w' : World} (h : EV w) (hg : Gr w.heap.size w w') : EV w' := h.below hg.below (by have := h.sz; omega) h.sz

set_option maxRecDepth 100000 in
set_option maxHeartbeats 2000000 in
theorem parse_ok (s : Int) (g : Bool) (t : ByteArray) (w : World) (hs : t.size ≤ 140737488351232) (hE : EV w) (hv : validB s = true) : Calls Tryz.prog 13 #[tyV s g, .string t] w fun e w' => e = .returned (.tuple #[.int .i64 (sel (parOK s g t.data.toList) (parN t.data.toList) 0), .int .i64 (sel (parOK s g t.data.toList) 0 13)]) ∧ Below w.heap.size w w' := by
  have hlen : t.data.toList.length = t.size := Array.length_toList
  cases hx : hexL t.data.toList
  · have hle : (⟨(restM t.data.toList).toArray⟩ : ByteArray).size ≤ 140737488351232 := by
      have := trim_le t.data.toList [45]
      show (restM t.data.toList).toArray.size ≤ _
      simp [restM]; omega
    have HX := Lib.hid hx
    cases hok : decOK (restM t.data.toList)
    · have HF := Lib.hid (show Ending.returned (.tuple #[.int .i64 0, .int .i64 13]) = .returned (.tuple #[.int .i64 (sel (parOK s g t.data.toList) (parN t.data.toList) 0), .int .i64 (sel (parOK s g t.data.toList) 0 13)]) from by simp [parOK, hx, hok, sel])
      have HO := Lib.hid hok
      clear hx hlen hok
      go_enter Tryz.func13, Tryz.ntmps13
      go_wp2_with first | (go_at_call 14; (refine (valid_any _ _ _).mono ?_); rintro e w1 ⟨rfl, hb⟩; obtain ⟨os, n, rfl⟩ := Below.moreE hb; clear hb)
      (refine (cut_x t _).mono ?_); rintro e w1 ⟨rfl, rfl⟩
      rw [HX.out]
      go_wp2_with fail
      (refine (cut_m t _).mono ?_); rintro e w1 ⟨rfl, rfl⟩
      go_wp2_with fail
      (refine (dec_any _ _ hle (hE.gr (by repeat (first | (with_reducible exact Gr.refl _) | with_reducible refine Gr.alloc ?_ _ | with_reducible refine Gr.more ?_ _ _ | with_reducible refine Gr.drew ?_)))).mono ?_); rintro e w1 ⟨⟨x, rfl, hxv⟩, hb⟩; obtain ⟨os2, n2, rfl⟩ := Below.moreE hb; clear hb
      clear hxv
      rw [show decOK (⟨(restM t.data.toList).toArray⟩ : ByteArray).data.toList = false from HO.out]
      go_wp2_with fail
      go_ret2
      exact ⟨HF.out, (Gr.below (by repeat (first | (with_reducible exact Gr.refl _) | with_reducible refine Gr.alloc ?_ _ | with_reducible refine Gr.more ?_ _ _ | with_reducible refine Gr.setCell ?_ (by dsimp only; omega) _ | with_reducible refine Gr.drew ?_)))⟩
    · cases hm : minL t.data.toList
      · have HF := Lib.hid (show Ending.returned (.tuple #[.int .i64 (sel (nmOK s g false (valI 10 (restM t.data.toList))) (nmV false (valI 10 (restM t.data.toList))) 0), .int .i64 (sel (nmOK s g false (valI 10 (restM t.data.toList))) 0 13)]) = .returned (.tuple #[.int .i64 (sel (parOK s g t.data.toList) (parN t.data.toList) 0), .int .i64 (sel (parOK s g t.data.toList) 0 13)]) from by simp [parOK, parN, hx, hok, hm])
        have HO := Lib.hid hok
        have HM := Lib.hid hm
        clear hx hlen hok hm
        go_enter Tryz.func13, Tryz.ntmps13
        go_wp2_with first | (go_at_call 14; (refine (valid_any _ _ _).mono ?_); rintro e w1 ⟨rfl, hb⟩; obtain ⟨os, n, rfl⟩ := Below.moreE hb; clear hb)
        (refine (cut_x t _).mono ?_); rintro e w1 ⟨rfl, rfl⟩
        rw [HX.out]
        go_wp2_with fail
        (refine (cut_m t _).mono ?_); rintro e w1 ⟨rfl, rfl⟩
        go_wp2_with fail
        (refine (dec_any _ _ hle (hE.gr (by repeat (first | (with_reducible exact Gr.refl _) | with_reducible refine Gr.alloc ?_ _ | with_reducible refine Gr.more ?_ _ _ | with_reducible refine Gr.drew ?_)))).mono ?_); rintro e w1 ⟨⟨x, rfl, hxv⟩, hb⟩; obtain ⟨os2, n2, rfl⟩ := Below.moreE hb; clear hb
        obtain rfl : x = valI 10 (restM t.data.toList) := hxv HO.out
        clear hxv
        rw [show decOK (⟨(restM t.data.toList).toArray⟩ : ByteArray).data.toList = true from HO.out, HM.out]
        go_wp2_with (go_at_call 37; (refine (numbered_any _ _ _ _ _ hv).mono ?_); rintro e w1 ⟨rfl, hb⟩; obtain ⟨os, n, rfl⟩ := Below.moreE hb; clear hb)
        go_ret2
        exact ⟨HF.out, (Gr.below (by repeat (first | (with_reducible exact Gr.refl _) | with_reducible refine Gr.alloc ?_ _ | with_reducible refine Gr.more ?_ _ _ | with_reducible refine Gr.setCell ?_ (by dsimp only; omega) _ | with_reducible refine Gr.drew ?_)))⟩
      · cases h0 : (valI 10 (restM t.data.toList) == 0)
        · have HF := Lib.hid (show Ending.returned (.tuple #[.int .i64 (sel (nmOK s g true (valI 10 (restM t.data.toList))) (nmV true (valI 10 (restM t.data.toList))) 0), .int .i64 (sel (nmOK s g true (valI 10 (restM t.data.toList))) 0 13)]) = .returned (.tuple #[.int .i64 (sel (parOK s g t.data.toList) (parN t.data.toList) 0), .int .i64 (sel (parOK s g t.data.toList) 0 13)]) from by simp only [parOK, parN, hx, hok, hm, h0]; simp)
          have HO := Lib.hid hok
          have HM := Lib.hid hm
          clear hx hlen hok hm
          go_enter Tryz.func13, Tryz.ntmps13
          go_wp2_with first | (go_at_call 14; (refine (valid_any _ _ _).mono ?_); rintro e w1 ⟨rfl, hb⟩; obtain ⟨os, n, rfl⟩ := Below.moreE hb; clear hb)
          (refine (cut_x t _).mono ?_); rintro e w1 ⟨rfl, rfl⟩
          rw [HX.out]
          go_wp2_with fail
          (refine (cut_m t _).mono ?_); rintro e w1 ⟨rfl, rfl⟩
          go_wp2_with fail
          (refine (dec_any _ _ hle (hE.gr (by repeat (first | (with_reducible exact Gr.refl _) | with_reducible refine Gr.alloc ?_ _ | with_reducible refine Gr.more ?_ _ _ | with_reducible refine Gr.drew ?_)))).mono ?_); rintro e w1 ⟨⟨x, rfl, hxv⟩, hb⟩; obtain ⟨os2, n2, rfl⟩ := Below.moreE hb; clear hb
          obtain rfl : x = valI 10 (restM t.data.toList) := hxv HO.out
          clear hxv
          rw [show decOK (⟨(restM t.data.toList).toArray⟩ : ByteArray).data.toList = true from HO.out, HM.out]
          go_wp2_with (go_at_call 37; (refine (numbered_any _ _ _ _ _ hv).mono ?_); rintro e w1 ⟨rfl, hb⟩; obtain ⟨os, n, rfl⟩ := Below.moreE hb; clear hb)
          go_ret2
          exact ⟨HF.out, (Gr.below (by repeat (first | (with_reducible exact Gr.refl _) | with_reducible refine Gr.alloc ?_ _ | with_reducible refine Gr.more ?_ _ _ | with_reducible refine Gr.setCell ?_ (by dsimp only; omega) _ | with_reducible refine Gr.drew ?_)))⟩
        · have HF := Lib.hid (show Ending.returned (.tuple #[.int .i64 0, .int .i64 13]) = .returned (.tuple #[.int .i64 (sel (parOK s g t.data.toList) (parN t.data.toList) 0), .int .i64 (sel (parOK s g t.data.toList) 0 13)]) from by simp only [parOK, parN, hx, hok, hm, h0]; simp [sel])
          have HO := Lib.hid hok
          have HM := Lib.hid hm
          clear hx hlen hok hm
          go_enter Tryz.func13, Tryz.ntmps13
          go_wp2_with first | (go_at_call 14; (refine (valid_any _ _ _).mono ?_); rintro e w1 ⟨rfl, hb⟩; obtain ⟨os, n, rfl⟩ := Below.moreE hb; clear hb)
          (refine (cut_x t _).mono ?_); rintro e w1 ⟨rfl, rfl⟩
          rw [HX.out]
          go_wp2_with fail
          (refine (cut_m t _).mono ?_); rintro e w1 ⟨rfl, rfl⟩
          go_wp2_with fail
          (refine (dec_any _ _ hle (hE.gr (by repeat (first | (with_reducible exact Gr.refl _) | with_reducible refine Gr.alloc ?_ _ | with_reducible refine Gr.more ?_ _ _ | with_reducible refine Gr.drew ?_)))).mono ?_); rintro e w1 ⟨⟨x, rfl, hxv⟩, hb⟩; obtain ⟨os2, n2, rfl⟩ := Below.moreE hb; clear hb
          obtain rfl : x = valI 10 (restM t.data.toList) := hxv HO.out
          clear hxv
          rw [show decOK (⟨(restM t.data.toList).toArray⟩ : ByteArray).data.toList = true from HO.out, HM.out]
          go_wp2_with (go_at_call 37; (refine (numbered_any _ _ _ _ _ hv).mono ?_); rintro e w1 ⟨rfl, hb⟩; obtain ⟨os, n, rfl⟩ := Below.moreE hb; clear hb)
          go_ret2
          exact ⟨HF.out, (Gr.below (by repeat (first | (with_reducible exact Gr.refl _) | with_reducible refine Gr.alloc ?_ _ | with_reducible refine Gr.more ?_ _ _ | with_reducible refine Gr.setCell ?_ (by dsimp only; omega) _ | with_reducible refine Gr.drew ?_)))⟩
  · have hle : (⟨(restH t.data.toList).toArray⟩ : ByteArray).size ≤ 140737488351232 := by
      have := trim_le t.data.toList [48, 120]
      show (restH t.data.toList).toArray.size ≤ _
      simp [restH]; omega
    have HX := Lib.hid hx
    cases hok : hexOK (restH t.data.toList)
    · have HF := Lib.hid (show Ending.returned (.tuple #[.int .i64 0, .int .i64 13]) = .returned (.tuple #[.int .i64 (sel (parOK s g t.data.toList) (parN t.data.toList) 0), .int .i64 (sel (parOK s g t.data.toList) 0 13)]) from by simp [parOK, hx, hok, sel])
      have HO := Lib.hid hok
      clear hx hlen hok
      go_enter Tryz.func13, Tryz.ntmps13
      go_wp2_with first | (go_at_call 14; (refine (valid_any _ _ _).mono ?_); rintro e w1 ⟨rfl, hb⟩; obtain ⟨os, n, rfl⟩ := Below.moreE hb; clear hb)
      (refine (cut_x t _).mono ?_); rintro e w1 ⟨rfl, rfl⟩
      rw [HX.out]
      go_wp2_with fail
      (refine (hex_any _ _ (hE.gr (by repeat (first | (with_reducible exact Gr.refl _) | with_reducible refine Gr.alloc ?_ _ | with_reducible refine Gr.more ?_ _ _ | with_reducible refine Gr.drew ?_)))).mono ?_); rintro e w1 ⟨⟨x, rfl, hxv⟩, hb⟩; obtain ⟨os2, n2, rfl⟩ := Below.moreE hb; clear hb hxv
      rw [show hexOK (⟨(restH t.data.toList).toArray⟩ : ByteArray).data.toList = false from HO.out]
      go_wp2_with fail
      go_ret2
      exact ⟨HF.out, (Gr.below (by repeat (first | (with_reducible exact Gr.refl _) | with_reducible refine Gr.alloc ?_ _ | with_reducible refine Gr.more ?_ _ _ | with_reducible refine Gr.setCell ?_ (by dsimp only; omega) _ | with_reducible refine Gr.drew ?_)))⟩
    · have HF := Lib.hid (show Ending.returned (.tuple #[.int .i64 (sel (nmOK s g false (valI 16 (restH t.data.toList))) (nmV false (valI 16 (restH t.data.toList))) 0), .int .i64 (sel (nmOK s g false (valI 16 (restH t.data.toList))) 0 13)]) = .returned (.tuple #[.int .i64 (sel (parOK s g t.data.toList) (parN t.data.toList) 0), .int .i64 (sel (parOK s g t.data.toList) 0 13)]) from by simp [parOK, parN, hx, hok])
      have HO := Lib.hid hok
      clear hx hlen hok
      go_enter Tryz.func13, Tryz.ntmps13
      go_wp2_with first | (go_at_call 14; (refine (valid_any _ _ _).mono ?_); rintro e w1 ⟨rfl, hb⟩; obtain ⟨os, n, rfl⟩ := Below.moreE hb; clear hb)
      (refine (cut_x t _).mono ?_); rintro e w1 ⟨rfl, rfl⟩
      rw [HX.out]
      go_wp2_with fail
      (refine (hex_any _ _ (hE.gr (by repeat (first | (with_reducible exact Gr.refl _) | with_reducible refine Gr.alloc ?_ _ | with_reducible refine Gr.more ?_ _ _ | with_reducible refine Gr.drew ?_)))).mono ?_); rintro e w1 ⟨⟨x, rfl, hxv⟩, hb⟩; obtain ⟨os2, n2, rfl⟩ := Below.moreE hb; clear hb
      obtain rfl : x = valI 16 (restH t.data.toList) := hxv HO.out
      clear hxv
      rw [show hexOK (⟨(restH t.data.toList).toArray⟩ : ByteArray).data.toList = true from HO.out]
      go_wp2_with (go_at_call 37; (refine (numbered_any _ _ _ _ _ hv).mono ?_); rintro e w1 ⟨rfl, hb⟩; obtain ⟨os, n, rfl⟩ := Below.moreE hb; clear hb)
      go_ret2
      exact ⟨HF.out, (Gr.below (by repeat (first | (with_reducible exact Gr.refl _) | with_reducible refine Gr.alloc ?_ _ | with_reducible refine Gr.more ?_ _ _ | with_reducible refine Gr.setCell ?_ (by dsimp only; omega) _ | with_reducible refine Gr.drew ?_)))⟩

set_option maxHeartbeats 400000 in
theorem bparse_any (s : Int) (g : Bool) (t : ByteArray) (w : World) (hs : t.size ≤ 140737488351232) (hE : EV w) : Calls Tryz.prog 13 #[tyV s g, .string t] w fun e w' => e = .returned (.tuple #[.int .i64 (sel (validB s && parOK s g t.data.toList) (parN t.data.toList) 0), .int .i64 (sel (validB s) (sel (parOK s g t.data.toList) 0 13) 10)]) ∧ Below w.heap.size w w' := by
  cases hv : validB s
  · go_enter Tryz.func13, Tryz.ntmps13
    go_wp2_with (go_at_call 14; (refine (valid_any _ _ _).mono ?_); rintro e w1 ⟨rfl, hb⟩; obtain ⟨os, n, rfl⟩ := Below.moreE hb; clear hb)
    go_ret2
    exact ⟨rfl, (Gr.below (by repeat (first | (with_reducible exact Gr.refl _) | with_reducible refine Gr.alloc ?_ _ | with_reducible refine Gr.more ?_ _ _ | with_reducible refine Gr.setCell ?_ (by dsimp only; omega) _ | with_reducible refine Gr.drew ?_)))⟩
  · exact parse_ok s g t w hs hE hv
end Go.Proofs.YtojcdjpaojgkkaaGreatDoor
