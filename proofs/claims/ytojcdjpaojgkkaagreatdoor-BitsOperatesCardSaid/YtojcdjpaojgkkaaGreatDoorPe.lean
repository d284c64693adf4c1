import Derived.Test.YtojcdjpaojgkkaaGreatDoorPd
import Derived.BigQuiet
import Derived.Deep.QuietTactic
namespace Go.Proofs.YtojcdjpaojgkkaaGreatDoor
open Go.RowKit

def hexOK (l : List UInt8) : Bool := decide (l.length ≤ 16) && puOK 16 l
def zeroFirst (l : List UInt8) : Bool := decide (1 < l.length) && l.head? == some 48
def decOK (l : List UInt8) : Bool := !zeroFirst l && puOK 10 l

def TwoB (b : Int) (l : List UInt8) (ok : Bool) (e : Ending) : Prop := ∃ x : Int, e = .returned (.tuple #[.int .u64 x, .bool ok]) ∧ (ok = true → x = valI b l)
theorem twoB_t {b : Int} {l : List UInt8} {ok : Bool} (h : ok = true) : TwoB b l ok (.returned (.tuple #[.int .u64 (valI b l), .bool true])) := ⟨_, by rw [h], fun _ => rfl⟩
theorem twoB_f {b : Int} {l : List UInt8} {ok : Bool} (x : Int) (h : ok = false) : TwoB b l ok (.returned (.tuple #[.int .u64 x, .bool false])) := ⟨_, by rw [h], fun hh => by rw [h] at hh; cases hh⟩

set_option maxRecDepth 100000 in
set_option maxHeartbeats 400000 in
theorem hex_any (s : ByteArray) (w : World) (hE : EV w) : Calls Tryz.prog 36 #[.string s] w fun e w' => TwoB 16 s.data.toList (hexOK s.data.toList) e ∧ Below w.heap.size w w' := by
  have hlen : s.data.toList.length = s.size := Array.length_toList
  by_cases h16 : s.size ≤ 16
  · go_enter Tryz.func36, Tryz.ntmps36
    go_wp2_with fail
    (refine (pq_any 16 (Or.inr rfl) s _ (by omega) hE).mono ?_); rintro e w1 ⟨hp, hb1⟩
    rcases hp with ⟨h1, rfl⟩ | ⟨h1, x, N, rfl⟩
    · have HF := Lib.hid (twoB_t (b := 16) (l := s.data.toList) (show hexOK s.data.toList = true from by simp [hexOK, h1, hlen, h16]))
      clear h1 hlen
      go_wp2_with fail
      go_quiet (fail)
      go_wp2_with fail
      go_ret2
      exact ⟨HF.out, below_drewN hb1 _⟩
    · have HF := Lib.hid (twoB_f (b := 16) (l := s.data.toList) x (show hexOK s.data.toList = false from by simp [hexOK, h1]))
      clear h1 hlen
      go_wp2_with fail
      go_quiet (fail)
      go_wp2_with fail
      go_ret2
      exact ⟨HF.out, below_drewN hb1 _⟩
  · have HF := Lib.hid (twoB_f (b := 16) (l := s.data.toList) 0 (show hexOK s.data.toList = false from by simp [hexOK, hlen, h16]))
    clear hlen
    go_enter Tryz.func36, Tryz.ntmps36
    go_wp2_with fail
    go_ret2
    exact ⟨HF.out, Below.refl _ _⟩

theorem head_is (s : ByteArray) (h0 : 0 < s.size) : s.data.toList.head? = some s[0] := by
  cases s with | mk d =>
  have h : 0 < d.size := h0
  rw [List.head?_eq_getElem?, Array.getElem?_toList, Array.getElem?_eq_getElem h]
  rfl

set_option maxRecDepth 100000 in
set_option maxHeartbeats 400000 in
theorem dec_any (s : ByteArray) (w : World) (hs : s.size ≤ 140737488351232) (hE : EV w) : Calls Tryz.prog 38 #[.string s] w fun e w' => TwoB 10 s.data.toList (decOK s.data.toList) e ∧ Below w.heap.size w w' := by
  have hlen : s.data.toList.length = s.size := Array.length_toList
  cases hz : zeroFirst s.data.toList
  · have Hz := Lib.hid hz
    by_cases h1 : 1 < s.size
    · have h0 : 0 < s.size := by omega
      have h48 : ((s[0].toNat : Int) == 48) = false := by
        have hh := head_is s h0
        unfold zeroFirst at hz
        rw [hlen, hh] at hz
        simp [h1] at hz
        apply beq_eq_false_iff_ne.2
        intro e
        apply hz
        apply UInt8.toNat.inj
        simp; omega
      clear hz hlen
      go_enter Tryz.func38, Tryz.ntmps38
      go_wp2_with fail
      (refine (pq_any 10 (Or.inl rfl) s _ hs hE).mono ?_); rintro e w1 ⟨hp, hb1⟩
      rcases hp with ⟨h1, rfl⟩ | ⟨h1, x, N, rfl⟩
      · have HF := Lib.hid (twoB_t (b := 10) (l := s.data.toList) (show decOK s.data.toList = true from by simp [decOK, h1, Hz.out]))
        clear h1
        go_wp2_with fail
        go_quiet (fail)
        go_wp2_with fail
        go_ret2
        exact ⟨HF.out, below_drewN hb1 _⟩
      · have HF := Lib.hid (twoB_f (b := 10) (l := s.data.toList) x (show decOK s.data.toList = false from by simp [decOK, h1]))
        clear h1
        go_wp2_with fail
        go_quiet (fail)
        go_wp2_with fail
        go_ret2
        exact ⟨HF.out, below_drewN hb1 _⟩
    · clear hz hlen
      go_enter Tryz.func38, Tryz.ntmps38
      go_wp2_with fail
      (refine (pq_any 10 (Or.inl rfl) s _ hs hE).mono ?_); rintro e w1 ⟨hp, hb1⟩
      rcases hp with ⟨h1, rfl⟩ | ⟨h1, x, N, rfl⟩
      · have HF := Lib.hid (twoB_t (b := 10) (l := s.data.toList) (show decOK s.data.toList = true from by simp [decOK, h1, Hz.out]))
        clear h1
        go_wp2_with fail
        go_quiet (fail)
        go_wp2_with fail
        go_ret2
        exact ⟨HF.out, below_drewN hb1 _⟩
      · have HF := Lib.hid (twoB_f (b := 10) (l := s.data.toList) x (show decOK s.data.toList = false from by simp [decOK, h1]))
        clear h1
        go_wp2_with fail
        go_quiet (fail)
        go_wp2_with fail
        go_ret2
        exact ⟨HF.out, below_drewN hb1 _⟩
  · have h1 : 1 < s.size := by
      unfold zeroFirst at hz; rw [hlen] at hz; simp at hz; exact hz.1
    have h0 : 0 < s.size := by omega
    have h48 : ((s[0].toNat : Int) == 48) = true := by
      have hh := head_is s h0
      unfold zeroFirst at hz
      rw [hlen, hh] at hz
      simp at hz
      rw [hz.2]; rfl
    have HF := Lib.hid (twoB_f (b := 10) (l := s.data.toList) 0 (show decOK s.data.toList = false from by simp [decOK, hz]))
    clear hz hlen
    go_enter Tryz.func38, Tryz.ntmps38
    go_wp2_with fail
    go_ret2
    exact ⟨HF.out, Below.refl _ _⟩
end Go.Proofs.YtojcdjpaojgkkaaGreatDoor
