/- Two short words. -/
import Derived.Below
namespace Go.Proofs.YtinjhnnpbejccaaGreatDoor
open Go Go.RowKit
theorem qh9 {p : Prop} (h : p) : Hid p := h
theorem qc9 {w w1 w2 : World} (h : Hid (Below w.heap.size w w1)) (hb : Below w1.heap.size w1 w2) : Hid (Below w.heap.size w w2) := Below.trans h.out (hb.mono h.out.size)
end Go.Proofs.YtinjhnnpbejccaaGreatDoor
