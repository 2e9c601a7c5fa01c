/- Less and Equal of small ordinals. -/
import Derived.Test.YtocbedijpomemaaGreatDoorLa1
import Derived.Test.YtocbedijpomemaaGreatDoorG27
namespace Go.Proofs.YtocbedijpomemaaGreatDoor
open Go Go.RowKit
set_option linter.unusedVariables false

structure PtZ (w X : World) : Prop where
 bel : Below w.heap.size w X
 b0 : Bx X w.heap.size zeroC
section
variable {Q : Exit → Act → World → Prop}
end
section
variable {Q : Exit → Act → World → Prop} {ops : Array Oper} {K : Act → World → Prop} {a : Act} {w : World} {i : Nat} {o : Oper}
theorem gw_eqT (ho : ops[i]? = some o) (hw : Region.wanted o (yielded ops a.tmps) = true) (s t : Tmp) (u : ByteArray) (hop : o.op = Op.binOp BinOp.eql 9 (.tmp s) (.tmp t) 9) (hx : a.tmps[s]? = some (.string u)) (hy : a.tmps[t]? = some (.string u)) (hK : K (a.put o.dst (.bool true)) w) : wpOp Tryz.prog ops Q i K a w := by
 have hq : (u.toList == u.toList) = true := by simp
 exact wpOp_step ho fun K' hK' => by
  rw [if_pos hw]
  unfold Oper.wp
  simp only [execOp, hop]
  go_simp
  exact hK' _ _ hK
end
theorem onX {a : On} {N L K : Nat} (h : a.sm N L K) (hN : N ≤ 3000) (hK : K ≤ 1000000000) : a.ob.bd 90 ∧ a.ob.nodes ≤ 3000 := ⟨On.ob_bd h.bd hK, On.ob_nodes h.nd hN⟩
end Go.Proofs.YtocbedijpomemaaGreatDoor
