import Derived.Test.YtojcdjpaojgkkaaGreatDoorWk
import Derived.Test.YtojcdjpaojgkkaaGreatDoorTb
import Derived.Test.YtojcdjpaojgkkaaGreatDoorPf
namespace Go.Proofs.YtojcdjpaojgkkaaGreatDoor
open Go.RowKit

theorem typ_any (s : Int) (g : Bool) (w : World) : Calls Tryz.prog 9 #[.int .i64 s, .bool g] w fun e w' => e = .returned (tyV s g) ∧ Below w.heap.size w w' := by
  go_enter Tryz.func9, Tryz.ntmps9
  go_wp2
  exact bodyPost_ret (v := tyV s g) (by simp [results, Tryz.results9, go_sem]) rfl ⟨rfl, (Gr.below (by repeat (first | (with_reducible exact Gr.refl _) | with_reducible refine Gr.alloc ?_ _ | with_reducible refine Gr.more ?_ _ _ | with_reducible refine Gr.setCell ?_ (by dsimp only; omega) _ | with_reducible refine Gr.drew ?_)))⟩

theorem vL {P : Program} {f : Nat} {args : Array Value} {w : World} {v v' : Value} (h : Calls P f args w fun e w' => e = .returned v ∧ Below w.heap.size w w') (e : v = v') : Calls P f args w fun e w' => e = .returned v' ∧ Below w.heap.size w w' := e ▸ h

theorem s_wrap (w : World) : Calls Tryz.prog 10 #[tyV 1 true, .int .i64 200] w fun e w' => e = .returned (.tuple #[.int .i64 (-56), .int .i64 0]) ∧ Below w.heap.size w w' :=
  vL (bwrap_any 1 true 200 w) (by rw [show sel (validB 1) (wrapI 1 true 200) 0 = -56 by decide +kernel, show eT 1 = 0 by decide +kernel])
theorem s_usual (w : World) (hp : PI w) : Calls Tryz.prog 11 #[tyV 4 false, tyV 8 true] w fun e w' => e = .returned (.tuple #[tyV 8 true, .int .i64 0]) ∧ Below w.heap.size w w' :=
  vL (busual_any 4 false 8 true w hp) (by rw [show cmS 4 false 8 true = 8 by decide +kernel, show cmG 4 false 8 true = true by decide +kernel, show eTT 4 8 = 0 by decide +kernel, show (validB 4 && validB 8) = true by decide +kernel, selV_t])
theorem s_b1 (w : World) (hp : PI w) : Calls Tryz.prog 7 #[.int .i64 11, tyV 4 true, .int .i64 (-1), tyV 4 false, .int .i64 1] w fun e w' => e = .returned (triV 4 true 0 0) ∧ Below w.heap.size w w' :=
  vL (bin_re11 4 true (-1) 4 false 1 w hp (by decide) (by decide)) (by rw [show sel (reB 11 (ordI (cmG 4 true 4 false) (opX 4 true (-1) 4 false) (opY 4 true 4 false 1))) 1 0 = 0 by decide +kernel])
theorem s_b2 (w : World) (hp : PI w) : Calls Tryz.prog 7 #[.int .i64 1, tyV 1 false, .int .i64 255, tyV 1 false, .int .i64 1] w fun e w' => e = .returned (triV 4 true 256 0) ∧ Below w.heap.size w w' :=
  vL (bin_ar1 1 false 255 1 false 1 w hp (by decide) (by decide)) (by rw [show wrapI (cmS 1 false 1 false) (cmG 1 false 1 false) (arI 1 (cmG 1 false 1 false) (opX 1 false 255 1 false) (opY 1 false 1 false 1)) = 256 by decide +kernel, show cmS 1 false 1 false = 4 by decide +kernel, show cmG 1 false 1 false = true by decide +kernel])
theorem s_b3 (w : World) (hp : PI w) : Calls Tryz.prog 7 #[.int .i64 4, tyV 4 true, .int .i64 (-7), tyV 4 true, .int .i64 2] w fun e w' => e = .returned (triV 4 true (-3) 0) ∧ Below w.heap.size w w' :=
  vL (bin_ar4 4 true (-7) 4 true 2 w hp (by decide) (by decide) (by decide +kernel) (by decide +kernel)) (by rw [show wrapI (cmS 4 true 4 true) (cmG 4 true 4 true) (arI 4 (cmG 4 true 4 true) (opX 4 true (-7) 4 true) (opY 4 true 4 true 2)) = -3 by decide +kernel, show cmS 4 true 4 true = 4 by decide +kernel, show cmG 4 true 4 true = true by decide +kernel])
theorem s_b4 (w : World) (hp : PI w) : Calls Tryz.prog 7 #[.int .i64 10, tyV 4 true, .int .i64 (-5), tyV 4 true, .int .i64 1] w fun e w' => e = .returned (triV 4 true (-3) 0) ∧ Below w.heap.size w w' :=
  vL (bin_sh10 4 true (-5) 4 true 1 w hp (by decide) (by decide)) (by rw [show wrapI (prS 4) (prG 4 true) (shI 10 (prG 4 true) (wrapI (prS 4) (prG 4 true) (wrapI 4 true (-5))) (cntI (prS 4) (wrapI 4 true 1))) = -3 by decide +kernel, show prS 4 = 4 by decide +kernel, show prG 4 true = true by decide +kernel])
theorem dec_max : decD 18446744073709551615 = [49, 56, 52, 52, 54, 55, 52, 52, 48, 55, 51, 55, 48, 57, 53, 53, 49, 54, 49, 53] := by
  simp [decD]
theorem s_text (w : World) : Calls Tryz.prog 12 #[tyV 8 false, .int .i64 (-1)] w fun e w' => e = .returned (.tuple #[.string ⟨#[49, 56, 52, 52, 54, 55, 52, 52, 48, 55, 51, 55, 48, 57, 53, 53, 49, 54, 49, 53]⟩, .int .i64 0]) ∧ Below w.heap.size w w' :=
  vL (btext_any 8 false (-1) w) (by
    rw [if_pos (by decide), show eT 8 = 0 by decide +kernel]
    have : textL false (wrapI 8 false (-1)) = decD 18446744073709551615 := by
      unfold textL
      rw [show negB false (wrapI 8 false (-1)) = false by decide +kernel, show (magI false (wrapI 8 false (-1))).toNat = 18446744073709551615 by decide +kernel]
      rfl
    rw [this, dec_max])
theorem s_parse1 (w : World) (hE : EV w) : Calls Tryz.prog 13 #[tyV 8 false, .string ⟨#[48, 120, 102, 102, 102, 102, 102, 102, 102, 102, 102, 102, 102, 102, 102, 102, 102, 102]⟩] w fun e w' => e = .returned (.tuple #[.int .i64 (-1), .int .i64 0]) ∧ Below w.heap.size w w' :=
  vL (bparse_any 8 false _ w (by decide) hE) (by
    rw [show (validB 8 && parOK 8 false (⟨#[48, 120, 102, 102, 102, 102, 102, 102, 102, 102, 102, 102, 102, 102, 102, 102, 102, 102]⟩ : ByteArray).data.toList) = true by decide +kernel, show validB 8 = true by decide +kernel, show parOK 8 false (⟨#[48, 120, 102, 102, 102, 102, 102, 102, 102, 102, 102, 102, 102, 102, 102, 102, 102, 102]⟩ : ByteArray).data.toList = true by decide +kernel, show parN (⟨#[48, 120, 102, 102, 102, 102, 102, 102, 102, 102, 102, 102, 102, 102, 102, 102, 102, 102]⟩ : ByteArray).data.toList = -1 by decide +kernel]; rfl)
theorem s_parse2 (w : World) (hE : EV w) : Calls Tryz.prog 13 #[tyV 1 true, .string ⟨#[49, 50, 56]⟩] w fun e w' => e = .returned (.tuple #[.int .i64 0, .int .i64 13]) ∧ Below w.heap.size w w' :=
  vL (bparse_any 1 true _ w (by decide) hE) (by
    rw [show (validB 1 && parOK 1 true (⟨#[49, 50, 56]⟩ : ByteArray).data.toList) = false by decide +kernel, show validB 1 = true by decide +kernel, show parOK 1 true (⟨#[49, 50, 56]⟩ : ByteArray).data.toList = false by decide +kernel]; rfl)
end Go.Proofs.YtojcdjpaojgkkaaGreatDoor
