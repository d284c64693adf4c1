import Derived.Test.YtojcdjpaojgkkaaGreatDoorPc
import Derived.Test.YtojcdjpaojgkkaaGreatDoorShelf
import Derived.Shelf.Strconv.ToErrorRange
namespace Go.Proofs.YtojcdjpaojgkkaaGreatDoor
open Go.RowKit

/-- The variables ErrSyntax and ErrRange of strconv hold an error or nil. -/
structure EV (w : World) : Prop where
  es : ∃ ev, w.cell? ⟨2, 0, none⟩ = some ev ∧ (ev = .nilIface ∨ ∃ te pe, ev = .iface te pe)
  er : ∃ ev, w.cell? ⟨3, 0, none⟩ = some ev ∧ (ev = .nilIface ∨ ∃ te pe, ev = .iface te pe)
  sz : 3 < w.heap.size

theorem EV.below {B : Nat} {w w' : World} (h : EV w) (hb : Below B w w') (h2 : 2 < B) (h3 : 3 < B) : EV w' := by
  obtain ⟨⟨a, ha, ha'⟩, ⟨b, hb', hb''⟩, hs⟩ := h
  exact ⟨⟨a, (hb.cell (p := ⟨2, 0, none⟩) h2).trans ha, ha'⟩, ⟨b, (hb.cell (p := ⟨3, 0, none⟩) h3).trans hb', hb''⟩, Nat.lt_of_lt_of_le hs hb.size⟩

/-- What the public ParseUint hands back. -/
def PqP (b : Int) (l : List UInt8) (e : Ending) : Prop :=
  (puOK b l = true ∧ e = .returned (.tuple #[.int .u64 (valI b l), .nilIface])) ∨
  (puOK b l = false ∧ ∃ (x : Int) (N : Nat), e = .returned (.tuple #[.int .u64 x, .iface 104 (.pointer (some ⟨N, 0, none⟩))]))

theorem pu_any (b : Int) (hb : b = 10 ∨ b = 16) (s : ByteArray) (w : World) (hs : s.size ≤ 140737488351232) : Calls Tryz.prog 77 #[.string s, .int .i64 b, .int .i64 64] w fun e w' => PuP b s.data.toList e ∧ Below w.heap.size w w' := by
  by_cases h0 : 0 < s.size
  · rcases hb with rfl | rfl
    · exact puB10 s w h0 hs
    · exact puB16 s w h0 hs
  · have hl : s.data.toList = [] := by
      apply List.eq_nil_of_length_eq_zero
      have : s.data.toList.length = s.size := Array.length_toList
      omega
    have he : s = ByteArray.empty := by
      cases s with | mk d =>
      have : d = #[] := by simpa using hl
      rw [this]; rfl
    subst he
    refine (pu_empty b w).mono ?_
    rintro e w' ⟨hp, rfl⟩
    exact ⟨hp, Below.refl _ _⟩

set_option maxRecDepth 100000 in
set_option maxHeartbeats 400000 in
theorem pq_any (b : Int) (hb : b = 10 ∨ b = 16) (s : ByteArray) (w : World) (hs : s.size ≤ 140737488351232) (hE : EV w) : Calls Tryz.prog 72 #[.string s, .int .i64 b, .int .i64 64] w fun e w' => PqP b s.data.toList e ∧ Below w.heap.size w w' := by
  go_enter Tryz.func72, Tryz.ntmps72
  go_wp2_with fail
  (refine (pu_any b hb s _ hs).mono ?_); rintro e w1 ⟨hp, hb1⟩
  have hE1 := hE.below hb1 (by have := hE.sz; omega) (by have := hE.sz; omega)
  obtain ⟨⟨es, hs1, hs2⟩, ⟨er, hr1, hr2⟩, _⟩ := hE1
  rcases hp with ⟨h1, rfl⟩ | ⟨h1, x, c, rfl, hc⟩
  · have HF := Lib.hid h1
    clear h1
    go_wp2_with fail
    go_ret2
    exact ⟨Or.inl ⟨HF.out, rfl⟩, hb1⟩
  · have HF := Lib.hid h1
    clear h1
    rcases hc with rfl | rfl
    · go_wp2_with fail
      (refine (Tryz.strconv_toError_range _ _ _ _ er _ (by omega) hr1 hr2).mono ?_); rintro e w2 ⟨N, rfl, _, _, hb2⟩
      go_wp2_with fail
      go_ret2
      exact ⟨Or.inr ⟨HF.out, _, N, rfl⟩, hb1.trans (hb2.mono hb1.size)⟩
    · go_wp2_with fail
      (refine (Tryz.strconv_toError_syntax _ _ _ _ es _ (by omega) hs1 hs2).mono ?_); rintro e w2 ⟨N, rfl, _, _, hb2⟩
      go_wp2_with fail
      go_ret2
      exact ⟨Or.inr ⟨HF.out, _, N, rfl⟩, hb1.trans (hb2.mono hb1.size)⟩
end Go.Proofs.YtojcdjpaojgkkaaGreatDoor
