/- Less and Equal of small ordinals. -/
import Derived.Test.YtobjdkblpjmbjaaGreatDoorLa1
namespace Go.Proofs.YtobjdkblpjmbjaaGreatDoor
open Go Go.RowKit
set_option linter.unusedVariables false
theorem lessPB {a b : On} {N L K N' L' K' : Nat} (v : Bool) (hv : decide (cmpE a b < 0) = v) (sa : a.sm N L K) (sb : b.sm N' L' K') (hN : N ≤ 3000) (hN' : N' ≤ 3000) (hK : K ≤ 1000000000) (hK' : K' ≤ 1000000000) (p p' : Value) (w : World) (hp : Hd w a.ob p) (hp' : Hd w b.ob p') (ht : Tab w) :
 Calls Tryz.prog 33 #[vO a.ob p, vO b.ob p'] w (RetB w v) := by
 have h := lessH a.ob b.ob p p' w (On.ob_bd sa.bd hK) (On.ob_bd sb.bd hK') (On.ob_nodes sa.nd hN) (On.ob_nodes sb.nd hN') hp hp' ht
 have e : lessO a.ob b.ob = v := by
  unfold lessO
  rw [ordOf_ob sa.nf, ordOf_ob sb.nf]
  exact hv
 rw [e] at h
 exact h
theorem eqOn {a b : On} {v : Bool} (h : decide (a = b) = v) : decide (a.ob = b.ob) = v := by
 rw [← h]
 by_cases e : a = b
 · subst e; simp
 · rw [decide_eq_false e, decide_eq_false (fun h => e (On.ob_inj h))]
theorem neOn {a b : On} (h : cmpE a b < 0) : decide (a = b) = false := decide_eq_false fun e => by
 subst e
 rw [cmpE_self] at h
 omega
theorem neOn' {a b : On} (h : 0 < cmpE a b) : decide (a = b) = false := decide_eq_false fun e => by
 subst e
 rw [cmpE_self] at h
 omega
end Go.Proofs.YtobjdkblpjmbjaaGreatDoor
