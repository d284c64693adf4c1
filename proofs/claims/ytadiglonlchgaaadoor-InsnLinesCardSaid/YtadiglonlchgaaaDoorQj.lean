/-
  Layer 2: the printed line: its length.
-/
import Derived.Test.YtadiglonlchgaaaDoorQi
namespace Go.Proofs.YtadiglonlchgaaaDoor
open Go.RowKit

theorem prL_len {op a b n : Int} (h : okX op a b n = true) (ha : I64' a) (hb : I64' b) (hn : I64' n) : (prL op a b n).size ≤ 150 := by
  have hs := (rowO_sh (okX_parts h).1).1
  have h1 := prK_len (mnO op) (opsS (rowO op).sh) a b n ha hb hn (opsS (rowO op).sh).length
  have h2 := mnO_len op
  have h3 := (ops_len hs).1
  unfold prL
  omega
end Go.Proofs.YtadiglonlchgaaaDoor
