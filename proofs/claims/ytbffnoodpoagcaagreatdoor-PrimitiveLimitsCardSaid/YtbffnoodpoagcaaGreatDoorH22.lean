/- What the primitives answer, and their guards, without memory. -/
import Derived.Test.YtbffnoodpoagcaaGreatDoorH20
import Derived.Test.YtbffnoodpoagcaaGreatDoorH21
namespace Go.Proofs.YtbffnoodpoagcaaGreatDoor
open Go Go.RowKit
set_option linter.unusedVariables false
def nmB : List (List UInt8) := [[105, 102], [101, 113, 117, 97, 108], [99, 111, 110, 115], [99, 97, 114], [99, 100, 114], [99, 111, 110, 115, 112], [115, 121, 109, 98, 111, 108, 112], [115, 116, 114, 105, 110, 103, 112], [114, 97, 116, 105, 111, 110, 97, 108, 112], [105, 110, 116, 101, 103, 101, 114, 112], [98, 105, 110, 97, 114, 121, 45, 43], [98, 105, 110, 97, 114, 121, 45, 42], [117, 110, 97, 114, 121, 45, 45], [117, 110, 97, 114, 121, 45, 47], [60], [110, 117, 109, 101, 114, 97, 116, 111, 114], [100, 101, 110, 111, 109, 105, 110, 97, 116, 111, 114], [102, 108, 111, 111, 114], [115, 121, 109, 98, 111, 108, 45, 110, 97, 109, 101], [115, 121, 109, 98, 111, 108, 45, 112, 97, 99, 107, 97, 103, 101, 45, 110, 97, 109, 101], [105, 110, 116, 101, 114, 110], [115, 116, 114, 105, 110, 103, 45, 97, 112, 112, 101, 110, 100], [115, 116, 114, 105, 110, 103, 45, 108, 101, 110, 103, 116, 104], [115, 116, 114, 105, 110, 103, 45, 98, 121, 116, 101], [98, 121, 116, 101, 45, 115, 116, 114, 105, 110, 103]]
def arB : List Nat := [3, 2, 2, 1, 1, 1, 1, 1, 1, 1, 2, 2, 1, 1, 2, 1, 1, 1, 1, 1, 2, 2, 1, 2, 1]

def trO (b : Bool) : Ob := if b then .t else .nil
def Ob.carV : Ob → Ob
 | .cons a _ => a
 | _ => .nil
def Ob.cdrV : Ob → Ob
 | .cons _ d => d
 | _ => .nil
def Ob.isNumB : Ob → Bool
 | .num _ => true
 | _ => false
def Ob.isStrB : Ob → Bool
 | .str _ => true
 | _ => false
def Ob.isSymB : Ob → Bool
 | .sym _ _ => true
 | _ => false
def Ob.strV : Ob → List UInt8
 | .str s => s
 | _ => []
def Ob.symN : Ob → List UInt8
 | .sym _ n => n
 | _ => []
def Ob.symP : Ob → List UInt8
 | .sym p _ => p
 | _ => []
def idxV (n : Nat) : Ob → Option Nat
 | .num q => if q.den = 1 ∧ 0 ≤ q.num ∧ q.num < n then some q.num.toNat else none
 | _ => none
def inO (n : Int) : Ob := .num (n : Rat)
def internV : Ob → Ob → Ob
 | .str n, .str p => if Sy.symOk (BA p) (BA n) then .sym p n else .nil
 | _, _ => .nil
def primV (i : Nat) (l : List Ob) : Ob := match i, l with
 | 0, [x, y, z] => if x = .nil then z else y
 | 1, [x, y] => trO (decide (x = y))
 | 2, [x, y] => .cons x y
 | 3, [x] => x.carV
 | 4, [x] => x.cdrV
 | 5, [x] => trO x.isCons
 | 6, [x] => trO x.isSymB
 | 7, [x] => trO x.isStrB
 | 8, [x] => trO x.isNumB
 | 9, [x] => trO x.isInt
 | 10, [x, y] => .num (x.fix + y.fix)
 | 11, [x, y] => .num (x.fix * y.fix)
 | 12, [x] => .num (-x.fix)
 | 13, [x] => .num (x.fix⁻¹)
 | 14, [x, y] => trO (decide (ordQ x.fix y.fix < 0))
 | 15, [x] => inO x.fix.num
 | 16, [x] => inO x.fix.den
 | 17, [x] => inO (x.fix.num / (x.fix.den : Int))
 | 18, [x] => .str x.symN
 | 19, [x] => .str x.symP
 | 20, [x, y] => internV x y
 | 21, [x, y] => .str (x.strV ++ y.strV)
 | 22, [x] => inO x.strV.length
 | 23, [x, y] => match idxV x.strV.length y with
  | some k => inO ((x.strV.getD k 0).toNat : Int)
  | none => .nil
 | 24, [x] => .str (match idxV 256 x with
  | some k => [UInt8.ofNat k]
  | none => [])
 | _, _ => .nil
def guardV (i : Nat) (l : List Ob) : Bool := match i, l with
 | 3, [x] => x.isCons || decide (x = .nil)
 | 4, [x] => x.isCons || decide (x = .nil)
 | 10, [x, y] => x.isNumB && y.isNumB
 | 11, [x, y] => x.isNumB && y.isNumB
 | 12, [x] => x.isNumB
 | 13, [x] => x.isNumB && decide (x.fix ≠ 0)
 | 14, [x, y] => x.isNumB && y.isNumB
 | 15, [x] => x.isNumB
 | 16, [x] => x.isNumB
 | 17, [x] => x.isNumB
 | 18, [x] => x.isSymB
 | 19, [x] => x.isSymB
 | 20, [x, y] => x.isStrB && y.isStrB
 | 21, [x, y] => x.isStrB && y.isStrB
 | 22, [x] => x.isStrB
 | 23, [x, y] => (idxV x.strV.length y).isSome
 | 24, [x] => (idxV 256 x).isSome
 | _, _ => true
def Ar (w : World) (l : List Ob) (v : Value) : Prop := ∃ A c, v = .slice A l.length c ∧ l.length ≤ c ∧
 (0 < l.length → ∃ b o, A = some ⟨b, o, none⟩ ∧ ∀ i (hi : i < l.length), ∃ p, Ad w l[i] b (o + i * 7) p)
theorem Ar.below {w w' : World} {l : List Ob} {v : Value} (h : Ar w l v) (hb : Below w.heap.size w w') : Ar w' l v := by
 obtain ⟨A, c, h1, h2, h3⟩ := h
 refine ⟨A, c, h1, h2, fun h0 => ?_⟩
 obtain ⟨b, o, h4, h5⟩ := h3 h0
 exact ⟨b, o, h4, fun i hi => by
  obtain ⟨p, hp⟩ := h5 i hi
  exact ⟨p, hp.below hb⟩⟩
theorem Ar.one {w : World} {x : Ob} {v : Value} (h : Ar w [x] v) : ∃ b o c p, v = .slice (some ⟨b, o, none⟩) 1 c ∧ 1 ≤ c ∧ Ad w x b o p := by
 obtain ⟨A, c, rfl, h2, h3⟩ := h
 obtain ⟨b, o, rfl, h5⟩ := h3 (by simp)
 obtain ⟨p, hp⟩ := h5 0 (by simp)
 rw [Nat.zero_mul, Nat.add_zero] at hp
 exact ⟨b, o, c, p, rfl, h2, hp⟩
theorem Ar.two {w : World} {x y : Ob} {v : Value} (h : Ar w [x, y] v) : ∃ b o c p q, v = .slice (some ⟨b, o, none⟩) 2 c ∧ 2 ≤ c ∧ Ad w x b o p ∧ Ad w y b (o + 7) q := by
 obtain ⟨A, c, rfl, h2, h3⟩ := h
 obtain ⟨b, o, rfl, h5⟩ := h3 (by simp)
 obtain ⟨p, hp⟩ := h5 0 (by simp)
 obtain ⟨q, hq⟩ := h5 1 (by simp)
 rw [Nat.zero_mul, Nat.add_zero] at hp
 exact ⟨b, o, c, p, q, rfl, h2, hp, hq⟩
theorem Ar.three {w : World} {x y z : Ob} {v : Value} (h : Ar w [x, y, z] v) : ∃ b o c p q r, v = .slice (some ⟨b, o, none⟩) 3 c ∧ 3 ≤ c ∧ Ad w x b o p ∧ Ad w y b (o + 7) q ∧ Ad w z b (o + 14) r := by
 obtain ⟨A, c, rfl, h2, h3⟩ := h
 obtain ⟨b, o, rfl, h5⟩ := h3 (by simp)
 obtain ⟨p, hp⟩ := h5 0 (by simp)
 obtain ⟨q, hq⟩ := h5 1 (by simp)
 obtain ⟨r, hr⟩ := h5 2 (by simp)
 rw [Nat.zero_mul, Nat.add_zero] at hp
 exact ⟨b, o, c, p, q, r, rfl, h2, hp, hq, hr⟩
def RetE (w : World) (r : Option Ob × Int) (e : Ending) (w' : World) : Prop := match r.1 with
 | some o => ∃ p, e = .returned (.tuple #[vO o p, .int .i64 r.2]) ∧ Hd w' o p ∧ Below w.heap.size w w'
 | none => e = .returned (.tuple #[.agg zeroC, .int .i64 r.2]) ∧ Below w.heap.size w w'
def appV (ok : Bool) (i : Option Nat) (l : List Ob) : Option Ob × Int := match i with
 | none => (none, 7)
 | some i => if l.length = arB.getD i 0 then (if ok then (some (primV i l), 0) else (none, 2)) else (none, 5)
def grdV (i : Option Nat) (l : List Ob) : Bool := match i with
 | none => false
 | some i => decide (l.length = arB.getD i 0) && guardV i l
end Go.Proofs.YtbffnoodpoagcaaGreatDoor
