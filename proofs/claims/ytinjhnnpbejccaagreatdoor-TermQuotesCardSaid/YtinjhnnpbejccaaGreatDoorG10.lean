/- number.greatestDivisor: the digits of the greatest common divisor. -/
import Derived.Test.YtinjhnnpbejccaaGreatDoorG8
namespace Go.Proofs.YtinjhnnpbejccaaGreatDoor
open Go Go.RowKit
set_option linter.unusedVariables false
set_option maxHeartbeats 32000000
set_option maxRecDepth 100000
def GcdW (G x k : Nat) (A A' : Option Addr) (c c' B : Nat) (w wr : World) : Prop :=
 Nat.gcd x k = G ∧ Reads wr wr.heap.size .u8 A (digs x) ∧ Reads wr wr.heap.size .u8 A' (digs k) ∧ Below B w wr

theorem gcdNat_any (A A' : Option Addr) (n m a b c d : Nat) (w : World) (ha : LenIs n a) (hb : LenIs m b) (h : Reads w w.heap.size .u8 A (digs n)) (h' : Reads w w.heap.size .u8 A' (digs m)) (hc : a ≤ c) (hd : b ≤ d) (h9 : a ≤ 1000000000) (h9' : b ≤ 1000000000) :
 Calls Tryz.prog 199 #[.slice A a c, .slice A' b d] w (RetD .u8 w (Nat.gcd n m)) := by
 obtain rfl : (digs n).length = a := ha
 obtain rfl : (digs m).length = b := hb
 have h0 : Hid (GcdW (Nat.gcd n m) n m A A' c d w.heap.size w w) := ⟨rfl, h, h', Below.refl _ _⟩
 clear h h'
 go_enter Tryz.func199, Tryz.ntmps199
 go_wp2
 go_loopg [0, 1] m (fun k u v wr => ∃ (x : Nat) (A A' : Option Addr) (c c' : Nat), u = .slice A (digs x).length c ∧ v = .slice A' (digs k).length c' ∧ (digs x).length ≤ c ∧ (digs k).length ≤ c' ∧ (digs x).length ≤ 1000000000 ∧ (digs k).length ≤ 1000000000 ∧ Hid (GcdW (Nat.gcd n m) x k A A' c c' w.heap.size w wr))
 case atStart => exact ⟨n, A, A', c, d, rfl, rfl, hc, hd, h9, h9', h0⟩
 case round =>
  clear h0 hc hd h9 h9'
  obtain ⟨x, A, A', c, d, rfl, rfl, hc, hd, h9, h9', h0⟩ := hrel
  obtain ⟨hg, h, h', hbel⟩ := h0.out
  clear h0
  by_cases hk : gk = 0
  · subst hk
    rw [Nat.gcd_zero_right] at hg
    have hx : Hid (x = Nat.gcd n m) := hg
    clear hg
    go_wp2
    go_ret
    exact ⟨A, c, by rw [← hx.out]; rfl, by rw [← hx.out]; exact hc, by rw [← hx.out]; exact h, hbel⟩
  · have hp : 0 < (digs gk).length := List.length_pos_iff.2 (digs_ne_nil hk)
    have hlt : x % gk < gk := Nat.mod_lt _ (by omega)
    have hl2 : (digs (x % gk)).length ≤ (digs gk).length := digs_length_mono (by omega)
    have hg2 : Hid (Nat.gcd gk (x % gk) = Nat.gcd n m) := by
     show _ = _
     rw [← hg, Nat.gcd_comm x gk, Nat.gcd_rec gk x, Nat.gcd_comm]
    clear hg
    go_wp2_with fail
    refine (divNat_any A A' x gk _ _ c d _ rfl rfl h h' hc h9 hk).mono ?_
    rintro e w2 ⟨A1, c1, A2, c2, rfl, hc1, hc2, hR1, hR2, hbel2⟩
    have hn : Hid (GcdW (Nat.gcd n m) gk (x % gk) A' A2 d c2 w.heap.size w w2) := ⟨hg2.out, (h'.below hbel2).more hbel2.size, hR2, hbel.trans (hbel2.mono hbel.size)⟩
    clear hR1 hR2 h h' hbel hbel2
    go_wp2
    go_roundg (x % gk)
    case measure => omega
    case rel => exact ⟨gk, A', A2, d, c2, rfl, rfl, hd, hc2, h9', by omega, hn⟩
end Go.Proofs.YtinjhnnpbejccaaGreatDoor
