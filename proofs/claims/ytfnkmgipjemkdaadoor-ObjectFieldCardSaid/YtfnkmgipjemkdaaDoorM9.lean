/- The reference's trim, order, plus, minus: digits in slices of integers. -/
import Derived.Test.YtfnkmgipjemkdaaDoorArith
import Derived.Test.YtfnkmgipjemkdaaDoorTrim
import Derived.Test.YtfnkmgipjemkdaaDoorCmp
import Derived.Test.YtfnkmgipjemkdaaDoorDivMath
import Derived.Maps.AppendAt
import Derived.OwnWalk
namespace Go.Proofs.YtfnkmgipjemkdaaDoor
open Go Go.RowKit
set_option linter.unusedVariables false

/-- The cells of numbers in a slice of integers. -/
def ci (xs : List Nat) : List Value := xs.map fun d : Nat => Value.int .i64 (d : Int)
/-- The value v is a slice of the call's own (blocks from B on) that holds the numbers xs. -/
def Own (w : World) (B : Nat) (v : Value) (xs : List Nat) : Prop := w.ownsRow B 3 1 v xs.length (ci xs)
theorem Own.nil_ (w : World) (B : Nat) : Own w B (.slice none 0 0) [] := World.ownsRow_nil w B 3 1
theorem Own.snoc {w : World} {B n : Nat} {v : Value} {xs : List Nat} {x : Int} {d : Nat} (h : w.ownsRow B 3 1 v (n + 1) (ci xs ++ [.int .i64 x])) (hn : xs.length = n) (hx : x = (d : Int)) : Own w B v (xs ++ [d]) := by
  subst hn hx
  unfold Own
  have e : ci (xs ++ [d]) = ci xs ++ [.int .i64 (d : Int)] := by unfold ci; simp
  rw [e, List.length_append]
  exact h
theorem Own.formF {w : World} {B : Nat} {v : Value} {xs : List Nat} (h : Own w B v xs) : ∃ A c, v = .slice A xs.length c ∧ xs.length ≤ c ∧ Reads w w.heap.size .i64 A xs ∧ ∀ x, A = some x → B ≤ x.block := by
  by_cases hv : ∃ A c, v = .slice A xs.length c ∧ A ≠ none
  · obtain ⟨A, c, rfl, hA⟩ := hv
    obtain ⟨g, rfl, hg, hc, hrow⟩ := Row.of_own h hA
    exact ⟨_, _, rfl, hc, hrow.reads hrow.lt, fun x hx => by injection hx with hx; subst hx; exact hg⟩
  · rcases h.2 with ⟨rfl, h0⟩ | ⟨g, cap, cur, rfl, _⟩
    · have hx : xs = [] := List.length_eq_zero_iff.1 h0
      subst hx
      exact ⟨none, 0, rfl, Nat.le_refl _, Reads.nil_, fun x hx => by cases hx⟩
    · exact absurd ⟨_, _, rfl, by simp⟩ hv
theorem Own.form {w : World} {B : Nat} {v : Value} {xs : List Nat} (h : Own w B v xs) : ∃ A c, v = .slice A xs.length c ∧ xs.length ≤ c ∧ Reads w w.heap.size .i64 A xs := by
  obtain ⟨A, c, h1, h2, h3, _⟩ := h.formF
  exact ⟨A, c, h1, h2, h3⟩
/-- A store elsewhere. -/
theorem Reads.far {w : World} {B g : Nat} {k : IntKind} {A : Option Addr} {xs : List Nat} (h : Reads w B k A xs) (hA : ∀ x, A = some x → g < x.block) (j : Nat) (u : Value) : Reads (w.setCell ⟨g, j, none⟩ u) B k A xs := fun hn => by
  obtain ⟨b, o, e, hb, hc⟩ := h hn
  have hg := hA _ e
  refine ⟨b, o, e, hb, fun i hi => ?_⟩
  rw [World.cell?_setCell_other _ _ _ _ (by intro e2; injection e2 with e3; simp only at hg; omega)]
  exact hc i hi
/-- The call returned a slice of digits that lies in memory that the call made. -/
def RetF (k : IntKind) (w : World) (n : Nat) (e : Ending) (w' : World) : Prop :=
  ∃ A c, e = .returned (.slice A (digs n).length c) ∧ (digs n).length ≤ c ∧ Reads w' w'.heap.size k A (digs n) ∧ Below w.heap.size w w' ∧ ∀ x, A = some x → w.heap.size ≤ x.block
theorem RetF.plain {k : IntKind} {w w' : World} {n : Nat} {e : Ending} (h : RetF k w n e w') : RetD k w n e w' := by
  obtain ⟨A, c, h1, h2, h3, h4, _⟩ := h
  exact ⟨A, c, h1, h2, h3, h4⟩

theorem infoI : (Tryd.prog.info? 3).map (fun i => (i.zero, i.size, i.bytes)) = some (some (.int .i64 0), 1, 8) := by kernel_rfl

/-- The call returned a slice of integers, digits of n, perhaps with zeros at the end. -/
def RetL (w : World) (N n : Nat) (e : Ending) (w' : World) : Prop :=
  ∃ A c zs, e = .returned (.slice A zs.length c) ∧ zs.length ≤ c ∧ zs.length ≤ N ∧ AllDig zs ∧ ofD zs = n ∧ Reads w' w'.heap.size .i64 A zs ∧ Below w.heap.size w w'

end Go.Proofs.YtfnkmgipjemkdaaDoor

/- The reference's plus and minus. -/
namespace Go.Proofs.YtfnkmgipjemkdaaDoor
open Go Go.RowKit
set_option linter.unusedVariables false

/-- The first k columns of a + b are written; q is carried. -/
def PInv (a b zs : List Nat) (k : Nat) (q : Int) : Prop :=
  AllDig zs ∧ zs.length = k ∧ ((ofD zs : Nat) : Int) + ((10 ^ k : Nat) : Int) * q = ((ofD (a.take k) + ofD (b.take k) : Nat) : Int)
theorem PInv.start (a b : List Nat) : PInv a b [] 0 0 := ⟨(fun _ h => by cases h), rfl, by simp [ofD]⟩
theorem PInv.step {a b zs : List Nat} {k : Nat} {q : Int} (h : PInv a b zs k q) (h0 : 0 ≤ q) (x y : Int) (hx : x = dg a k) (hy : y = dg b k) :
    PInv a b (zs ++ [((q + x + y) % 10).toNat]) (k + 1) ((q + x + y) / 10) := by
  subst hx hy
  obtain ⟨h1, h2, h3⟩ := h
  have e : ((((q + dg a k + dg b k) % 10).toNat : Nat) : Int) = (q + dg a k + dg b k) % 10 := Int.toNat_of_nonneg (Int.emod_nonneg _ (by decide))
  have hd : ((q + dg a k + dg b k) % 10).toNat < 10 := by have := Int.emod_lt_of_pos (q + dg a k + dg b k) (show (0 : Int) < 10 by decide); omega
  refine ⟨h1.append (AllDig.one hd), by simp [h2], ?_⟩
  rw [ofD_append, h2, ofD_take_succ a, ofD_take_succ b]
  simp only [ofD, Nat.mul_zero, Nat.add_zero, Int.natCast_add, Int.natCast_mul, Nat.pow_succ] at h3 ⊢
  rw [e]
  exact add_column (x := dg a k) (y := dg b k) h3 (by omega)
theorem PInv.done {a b zs : List Nat} {k : Nat} {q : Int} (h : PInv a b zs k q) (ha : a.length ≤ k) (hb : b.length ≤ k) (hq : q = 0) : AllDig zs ∧ ofD zs = ofD a + ofD b := by
  subst hq
  obtain ⟨h1, h2, h3⟩ := h
  rw [List.take_of_length_le ha, List.take_of_length_le hb] at h3
  exact ⟨h1, by omega⟩

/-- The first k columns of a - b are written; q is borrowed. -/
def MInv (a b zs : List Nat) (k : Nat) (q : Int) : Prop :=
  AllDig zs ∧ zs.length = k ∧ ((ofD zs : Nat) : Int) + ((ofD (b.take k) : Nat) : Int) = ((ofD (a.take k) : Nat) : Int) + ((10 ^ k : Nat) : Int) * q
theorem MInv.start (a b : List Nat) : MInv a b [] 0 0 := ⟨(fun _ h => by cases h), rfl, by simp [ofD]⟩
theorem MInv.step {a b zs : List Nat} {k : Nat} {q q' z : Int} (h : MInv a b zs k q) (h0 : 0 ≤ z) (h1 : z < 10) (x y : Int) (hx : x = dg a k) (hy : y = dg b k) (hz : z = x - q - y + 10 * q') :
    MInv a b (zs ++ [z.toNat]) (k + 1) q' := by
  subst hx hy
  obtain ⟨g1, g2, g3⟩ := h
  have e : ((z.toNat : Nat) : Int) = z := Int.toNat_of_nonneg h0
  refine ⟨g1.append (AllDig.one (by omega)), by simp [g2], ?_⟩
  rw [ofD_append, g2, ofD_take_succ a, ofD_take_succ b]
  simp only [ofD, Nat.mul_zero, Nat.add_zero, Int.natCast_add, Int.natCast_mul, Nat.pow_succ] at g3 ⊢
  rw [e, hz]
  have ea : ((a.getD k 0 : Nat) : Int) = dg a k := rfl
  have eb : ((b.getD k 0 : Nat) : Int) = dg b k := rfl
  rw [ea, eb, Int.mul_assoc]
  simp only [Int.mul_add, Int.mul_sub]
  have e3 : ((10 ^ k : Nat) : Int) * (((10 : Nat) : Int) * q') = ((10 ^ k : Nat) : Int) * (10 * q') := rfl
  rw [e3]
  omega
theorem MInv.done {a b zs : List Nat} {k : Nat} {q : Int} (h : MInv a b zs k q) (ha : a.length = k) (hb : b.length ≤ k) (h0 : 0 ≤ q) (h1 : q ≤ 1) (hle : ofD b ≤ ofD a) : AllDig zs ∧ zs.length = k ∧ ofD zs = ofD a - ofD b := by
  obtain ⟨g1, g2, g3⟩ := h
  rw [List.take_of_length_le (l := a) (by omega), List.take_of_length_le hb] at g3
  have := ofD_lt g1
  rw [g2] at this
  rcases (show q = 0 ∨ q = 1 by omega) with e | e
  · subst e; exact ⟨g1, g2, by omega⟩
  · subst e; omega

theorem one_cells1 (k : IntKind) (x : Int) : ∀ u ∈ [Value.int k x], u.oneCell' = true := by
  intro u hu
  rw [List.mem_singleton] at hu
  subst hu
  rfl

/-- A row of the call's own, as the append's law left it. -/
theorem own_next {w w1 : World} {B n : Nat} {v v1 : Value} {xs : List Nat} {x : Int} (h : w1.ownsRow B 3 1 v1 (n + 1) (ci xs ++ [.int .i64 x])) (hn : xs.length = n) (hx : 0 ≤ x) : Own w1 B v1 (xs ++ [x.toNat]) :=
  Own.snoc h hn (Int.toNat_of_nonneg hx).symm
theorem below_next {w wr w1 : World} {B : Nat} {o : Obj} {v : Value} {n : Nat} {xs : List Value} (hb : Below B w wr) (hB : B ≤ wr.heap.size) (hown : wr.ownsRow B 3 1 v n xs) (hg : (wr.alloc o).grownBy w1 v.ownBlock) : Below B w w1 :=
  (hb.alloc hB o).grown hg (by simp; omega) (fun k hk => (hown.lt k hk).1)

theorem Own.row {w : World} {B : Nat} {v : Value} {xs : List Nat} (h : Own w B v xs) : w.ownsRow B 3 1 v xs.length (ci xs) := h

end Go.Proofs.YtfnkmgipjemkdaaDoor
