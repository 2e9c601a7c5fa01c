/- What the laws over made objects share. -/
import Derived.Test.YtflnffgohbbhiaaGreatDoorG23
import Derived.Test.YtflnffgohbbhiaaGreatDoorG21
import Derived.Test.YtflnffgohbbhiaaGreatDoorG24
import Derived.Test.YtflnffgohbbhiaaGreatDoorG11
import Derived.Test.YtflnffgohbbhiaaGreatDoorG17
import Derived.Test.YtflnffgohbbhiaaGreatDoorG18
namespace Go.Proofs.YtflnffgohbbhiaaGreatDoor
open Go Go.RowKit
set_option linter.unusedVariables false
theorem lt_of_heap {w : World} {b : Nat} {o : Obj} (h : w.heap[b]? = some o) : b < w.heap.size := by
 rcases Nat.lt_or_ge b w.heap.size with hlt | hge
 · exact hlt
 · rw [Array.getElem?_eq_none hge] at h; cases h

structure Stored2 (B : Nat) (w X : World) (g0 g1 : Nat) (o0 o1 : Ob) (p0 p1 : Value) : Prop where
 bel : Below w.heap.size w X
 h0 : X.heap[g0]? = some (.cells (cellsO o0 p0).toArray 47 (0, 0))
 h1 : X.heap[g1]? = some (.cells (cellsO o1 p1).toArray 47 (0, 0))
 q0 : Pair X (Has X) o0 p0
 q1 : Pair X (Has X) o1 p1
theorem Stored2.new {B : Nat} {w w9 : World} {g0 g1 : Nat} {o0 o1 : Ob} {p0 p1 : Value} {old0 : Array Value} {S0 : Nat → Prop} {old1 : Array Value} {S1 : Nat → Prop} (hg0 : w9.heap[g0]? = some (.cells old0 47 (0, 0))) (hp0 : Pair w9 S0 o0 p0) (hg1 : w9.heap[g1]? = some (.cells old1 47 (0, 0))) (hp1 : Pair w9 S1 o1 p1) (hB0 : w.heap.size ≤ g0) (hB1 : w.heap.size ≤ g1) (hS0 : ∀ b, S0 b → b < w9.heap.size) (hS1 : ∀ b, S1 b → b < w9.heap.size) (n01 : g0 ≠ g1) (m00 : ¬ S0 g0) (m01 : ¬ S0 g1) (m10 : ¬ S1 g0) (m11 : ¬ S1 g1) (hb : Below w.heap.size w w9) :
 Stored2 B w (World.setRow (World.setRow w9 g0 (cellsO o0 p0).toArray) g1 (cellsO o1 p1).toArray) g0 g1 o0 o1 p0 p1 := by
 exact ⟨below_setRowO (below_setRowO (hb) hB0 _) hB1 _, ((setRow_other _ _ _ _ (by omega)).trans (setRow_heap _ _ _ _ _ _ hg0)), (setRow_heap _ _ _ _ _ _ ((setRow_other _ _ _ _ (by omega)).trans hg1)), ((hp0.setRow g0 m00 _).setRow g1 m01 _).more (fun b hb => by have := hS0 b hb; unfold Has; rw [size_setRow, size_setRow]; exact this), ((hp1.setRow g0 m10 _).setRow g1 m11 _).more (fun b hb => by have := hS1 b hb; unfold Has; rw [size_setRow, size_setRow]; exact this)⟩
theorem Stored2.below {B : Nat} {w X X' : World} {g0 g1 : Nat} {o0 o1 : Ob} {p0 p1 : Value} (h : Stored2 B w X g0 g1 o0 o1 p0 p1) (hb : Below X.heap.size X X') : Stored2 B w X' g0 g1 o0 o1 p0 p1 :=
 ⟨h.bel.trans (hb.mono h.bel.size), (hb.block _ (lt_of_heap h.h0)).trans h.h0, (hb.block _ (lt_of_heap h.h1)).trans h.h1, (h.q0.below (fun _ h => h) hb).more (fun b h => Nat.lt_of_lt_of_le h hb.size), (h.q1.below (fun _ h => h) hb).more (fun b h => Nat.lt_of_lt_of_le h hb.size)⟩

structure Stored3 (B : Nat) (w X : World) (g0 g1 g2 : Nat) (o0 o1 o2 : Ob) (p0 p1 p2 : Value) : Prop where
 bel : Below w.heap.size w X
 h0 : X.heap[g0]? = some (.cells (cellsO o0 p0).toArray 47 (0, 0))
 h1 : X.heap[g1]? = some (.cells (cellsO o1 p1).toArray 47 (0, 0))
 h2 : X.heap[g2]? = some (.cells (cellsO o2 p2).toArray 47 (0, 0))
 q0 : Pair X (Has X) o0 p0
 q1 : Pair X (Has X) o1 p1
 q2 : Pair X (Has X) o2 p2
theorem Stored3.new {B : Nat} {w w9 : World} {g0 g1 g2 : Nat} {o0 o1 o2 : Ob} {p0 p1 p2 : Value} {old0 : Array Value} {S0 : Nat → Prop} {old1 : Array Value} {S1 : Nat → Prop} {old2 : Array Value} {S2 : Nat → Prop} (hg0 : w9.heap[g0]? = some (.cells old0 47 (0, 0))) (hp0 : Pair w9 S0 o0 p0) (hg1 : w9.heap[g1]? = some (.cells old1 47 (0, 0))) (hp1 : Pair w9 S1 o1 p1) (hg2 : w9.heap[g2]? = some (.cells old2 47 (0, 0))) (hp2 : Pair w9 S2 o2 p2) (hB0 : w.heap.size ≤ g0) (hB1 : w.heap.size ≤ g1) (hB2 : w.heap.size ≤ g2) (hS0 : ∀ b, S0 b → b < w9.heap.size) (hS1 : ∀ b, S1 b → b < w9.heap.size) (hS2 : ∀ b, S2 b → b < w9.heap.size) (n01 : g0 ≠ g1) (n02 : g0 ≠ g2) (n12 : g1 ≠ g2) (m00 : ¬ S0 g0) (m01 : ¬ S0 g1) (m02 : ¬ S0 g2) (m10 : ¬ S1 g0) (m11 : ¬ S1 g1) (m12 : ¬ S1 g2) (m20 : ¬ S2 g0) (m21 : ¬ S2 g1) (m22 : ¬ S2 g2) (hb : Below w.heap.size w w9) :
 Stored3 B w (World.setRow (World.setRow (World.setRow w9 g0 (cellsO o0 p0).toArray) g1 (cellsO o1 p1).toArray) g2 (cellsO o2 p2).toArray) g0 g1 g2 o0 o1 o2 p0 p1 p2 := by
 exact ⟨below_setRowO (below_setRowO (below_setRowO (hb) hB0 _) hB1 _) hB2 _, ((setRow_other _ _ _ _ (by omega)).trans ((setRow_other _ _ _ _ (by omega)).trans (setRow_heap _ _ _ _ _ _ hg0))), ((setRow_other _ _ _ _ (by omega)).trans (setRow_heap _ _ _ _ _ _ ((setRow_other _ _ _ _ (by omega)).trans hg1))), (setRow_heap _ _ _ _ _ _ ((setRow_other _ _ _ _ (by omega)).trans ((setRow_other _ _ _ _ (by omega)).trans hg2))), (((hp0.setRow g0 m00 _).setRow g1 m01 _).setRow g2 m02 _).more (fun b hb => by have := hS0 b hb; unfold Has; rw [size_setRow, size_setRow, size_setRow]; exact this), (((hp1.setRow g0 m10 _).setRow g1 m11 _).setRow g2 m12 _).more (fun b hb => by have := hS1 b hb; unfold Has; rw [size_setRow, size_setRow, size_setRow]; exact this), (((hp2.setRow g0 m20 _).setRow g1 m21 _).setRow g2 m22 _).more (fun b hb => by have := hS2 b hb; unfold Has; rw [size_setRow, size_setRow, size_setRow]; exact this)⟩
theorem Stored3.below {B : Nat} {w X X' : World} {g0 g1 g2 : Nat} {o0 o1 o2 : Ob} {p0 p1 p2 : Value} (h : Stored3 B w X g0 g1 g2 o0 o1 o2 p0 p1 p2) (hb : Below X.heap.size X X') : Stored3 B w X' g0 g1 g2 o0 o1 o2 p0 p1 p2 :=
 ⟨h.bel.trans (hb.mono h.bel.size), (hb.block _ (lt_of_heap h.h0)).trans h.h0, (hb.block _ (lt_of_heap h.h1)).trans h.h1, (hb.block _ (lt_of_heap h.h2)).trans h.h2, (h.q0.below (fun _ h => h) hb).more (fun b h => Nat.lt_of_lt_of_le h hb.size), (h.q1.below (fun _ h => h) hb).more (fun b h => Nat.lt_of_lt_of_le h hb.size), (h.q2.below (fun _ h => h) hb).more (fun b h => Nat.lt_of_lt_of_le h hb.size)⟩
structure FixB (w X : World) (g0 g1 r : Nat) (x y : Array Value) : Prop where
 bel : Below w.heap.size w X
 h0 : X.heap[g0]? = some (.cells x 47 (0, 0))
 h1 : X.heap[g1]? = some (.cells y 47 (0, 0))
 hr : ∃ z : Array Value, z.size = 7 ∧ X.heap[r]? = some (.cells z 47 (0, 0))
 n0 : r < g0
 n1 : r < g1
 low : w.heap.size ≤ r
theorem FixB.below {w X X' : World} {g0 g1 r : Nat} {x y : Array Value} (h : FixB w X g0 g1 r x y) (hb : Below X.heap.size X X') : FixB w X' g0 g1 r x y := by
 obtain ⟨z, hz, h2⟩ := h.hr
 exact ⟨h.bel.trans (hb.mono h.bel.size), (hb.block _ (lt_of_heap h.h0)).trans h.h0, (hb.block _ (lt_of_heap h.h1)).trans h.h1, ⟨z, hz, (hb.block _ (lt_of_heap h2)).trans h2⟩, h.n0, h.n1, h.low⟩
theorem FixB.ret {w X : World} {g0 g1 r : Nat} {x y : Array Value} (T : FixB w X g0 g1 r x y) (q : Rat) {fn : Func} {t : Tmp} {tmps : Array Value} (h : fn.results = #[.cell t 47]) (hr : tmps.getD t undef = .pointer (some ⟨r, 0, none⟩)) :
 bodyPost Tryz.prog fn (RetN w q) Exit.ret ⟨tmps, []⟩ (((((((X.setCell ⟨r, 0, none⟩ (.int .i64 1)).setCell ⟨r, 1, none⟩ (.string (nt q))).setCell ⟨r, 2, none⟩ (.string (dt q))).setCell ⟨r, 3, none⟩ (.string ⟨#[]⟩)).setCell ⟨r, 4, none⟩ (.string ⟨#[]⟩)).setCell ⟨r, 5, none⟩ (.string ⟨#[]⟩)).setCell ⟨r, 6, none⟩ (.slice none 0 0)) := by
 obtain ⟨z, hz, h2⟩ := T.hr
 rw [setRow7 h2 hz]
 exact retN h hr (setRow_heap _ _ _ _ _ _ h2) rfl (below_setRowO T.bel T.low _)
inductive On where
 | fin (n : Nat)
 | pw (e : On) (c : Nat) (r : On)
deriving DecidableEq

def On.exp : On → On
 | .fin _ => .fin 0
 | .pw e _ _ => e
def On.coef : On → Nat
 | .fin n => n
 | .pw _ c _ => c
def On.rest : On → On
 | .fin _ => .fin 0
 | .pw _ _ r => r
def cmpNt (a b : Nat) : Int := if a < b then -1 else if b < a then 1 else 0
theorem cmpNt_anti (a b : Nat) : cmpNt b a = - cmpNt a b := by unfold cmpNt; split <;> split <;> omega
theorem cmpNt_zero (a b : Nat) : cmpNt a b = 0 ↔ a = b := by unfold cmpNt; split <;> (try split) <;> omega
def cmpE : On → On → Int
 | .fin a, .fin b => cmpNt a b
 | .fin _, .pw _ _ _ => -1
 | .pw _ _ _, .fin _ => 1
 | .pw e c r, .pw e' c' r' => next (cmpE e e') (next (cmpNt c c') (cmpE r r'))
theorem cmpE_anti : ∀ a b : On, cmpE b a = - cmpE a b
 | .fin a, .fin b => cmpNt_anti a b
 | .fin _, .pw _ _ _ => rfl
 | .pw _ _ _, .fin _ => rfl
 | .pw e c r, .pw e' c' r' => next_anti (cmpE_anti e e') (next_anti (cmpNt_anti c c') (cmpE_anti r r'))
theorem cmpE_zero : ∀ a b : On, cmpE a b = 0 ↔ a = b
 | .fin a, .fin b => by simp only [cmpE, On.fin.injEq]; exact cmpNt_zero a b
 | .fin _, .pw _ _ _ => by simp [cmpE]
 | .pw _ _ _, .fin _ => by simp [cmpE]
 | .pw e c r, .pw e' c' r' => by simp only [cmpE, next_zero, On.pw.injEq, cmpE_zero e e', cmpE_zero r r', cmpNt_zero]
theorem cmpE_self (a : On) : cmpE a a = 0 := (cmpE_zero a a).2 rfl
def On.nf : On → Prop
 | .fin _ => True
 | .pw e c r => e.nf ∧ e ≠ .fin 0 ∧ 1 ≤ c ∧ r.nf ∧ cmpE r.exp e < 0
theorem cmpE_fin0 (a : On) : 0 ≤ cmpE a (.fin 0) := by
 cases a with
 | fin n => show 0 ≤ cmpNt n 0; unfold cmpNt; split <;> (try split) <;> omega
 | pw e c r => show (0 : Int) ≤ 1; omega
theorem cmpE_ways (a b : On) : cmpE a b < 0 ∨ a = b ∨ 0 < cmpE a b := by
 rcases Int.lt_trichotomy (cmpE a b) 0 with h | h | h
 · exact .inl h
 · exact .inr (.inl ((cmpE_zero a b).1 h))
 · exact .inr (.inr h)
theorem cmpE_flip {a b : On} : 0 < cmpE a b ↔ cmpE b a < 0 := by have := cmpE_anti a b; omega
def addE : On → On → On
 | .fin m, .fin n => .fin (m + n)
 | .fin _, .pw e c r => .pw e c r
 | .pw e c r, b => if cmpE e b.exp < 0 then b else if cmpE e b.exp = 0 then .pw e (c + b.coef) b.rest else .pw e c (addE r b)
theorem addE_lt {e : On} {c : Nat} {r b : On} (h : cmpE e b.exp < 0) : addE (.pw e c r) b = b := by
 unfold addE; rw [if_pos h]
theorem addE_eq {e : On} {c : Nat} {r b : On} (h : e = b.exp) : addE (.pw e c r) b = .pw e (c + b.coef) b.rest := by
 unfold addE
 have h0 : cmpE e b.exp = 0 := by rw [← h]; exact cmpE_self e
 rw [if_neg (by omega), if_pos h0]
theorem addE_gt {e : On} {c : Nat} {r b : On} (h : 0 < cmpE e b.exp) : addE (.pw e c r) b = .pw e c (addE r b) := by
 conv => lhs; unfold addE
 rw [if_neg (by omega), if_neg (by omega)]
theorem addE_exp : ∀ (a b : On), (addE a b).exp = if cmpE a.exp b.exp < 0 then b.exp else a.exp
 | .fin m, .fin n => by rw [if_neg (by rw [show (On.fin m).exp = (On.fin n).exp from rfl, cmpE_self]; omega)]; rfl
 | .fin m, .pw e c r => by
  show e = if cmpE (.fin 0) e < 0 then e else .fin 0
  split
  · rfl
  · rename_i h
    have h1 := cmpE_fin0 e
    have h2 := cmpE_anti e (.fin 0)
    exact (cmpE_zero _ _).1 (by omega)
 | .pw e c r, b => by
  rcases cmpE_ways e b.exp with h | h | h
  · have h' : cmpE (On.pw e c r).exp b.exp < 0 := h
    rw [addE_lt h, if_pos h']
  · rw [addE_eq h, if_neg (by show ¬ cmpE e b.exp < 0; rw [← h, cmpE_self]; omega)]; rfl
  · rw [addE_gt h, if_neg (by show ¬ cmpE e b.exp < 0; omega)]; rfl
theorem on_pw {b : On} (h : b.exp ≠ .fin 0) : b = .pw b.exp b.coef b.rest := by
 cases b with
 | fin n => exact absurd rfl h
 | pw e c r => rfl
theorem addE_nf : ∀ (a b : On), a.nf → b.nf → (addE a b).nf
 | .fin m, .fin n, _, _ => trivial
 | .fin m, .pw e c r, _, hb => hb
 | .pw e c r, b, ha, hb => by
  rcases cmpE_ways e b.exp with h | h | h
  · rw [addE_lt h]; exact hb
  · have hbp := on_pw (b := b) (by rw [← h]; exact ha.2.1)
    rw [addE_eq h]
    rw [hbp] at hb
    exact ⟨ha.1, ha.2.1, by have := ha.2.2.1; omega, hb.2.2.2.1, by rw [h]; exact hb.2.2.2.2⟩
  · rw [addE_gt h]
    refine ⟨ha.1, ha.2.1, ha.2.2.1, addE_nf r b ha.2.2.2.1 hb, ?_⟩
    rw [addE_exp]
    split
    · exact cmpE_flip.1 h
    · exact ha.2.2.2.2
def On.ob : On → Ob
 | .fin n => .num (n : Rat)
 | .pw e c r => .cons (.cons e.ob (.num (c : Rat))) r.ob
def On.nd : On → Nat
 | .fin _ => 1
 | .pw e _ r => 3 + e.nd + r.nd
def On.bd (k : Nat) : On → Prop
 | .fin n => n ≤ k
 | .pw e c r => e.bd k ∧ c ≤ k ∧ r.bd k
theorem On.bd.more {j k : Nat} (h : j ≤ k) : ∀ {a : On}, a.bd j → a.bd k
 | .fin n, ha => Nat.le_trans ha h
 | .pw e c r, ha => ⟨On.bd.more h ha.1, Nat.le_trans ha.2.1 h, On.bd.more h ha.2.2⟩
theorem On.bd_rest {k : Nat} {a : On} (h : a.bd k) : a.rest.bd k := by
 cases a with
 | fin n => exact Nat.zero_le _
 | pw e c r => exact h.2.2
theorem On.bd_coef {k : Nat} {a : On} (h : a.bd k) : a.coef ≤ k := by
 cases a with
 | fin n => exact h
 | pw e c r => exact h.2.1
theorem addE_bd {j k : Nat} : ∀ {a b : On}, a.bd j → b.bd k → (addE a b).bd (j + k)
 | .fin m, .fin n, ha, hb => Nat.add_le_add ha hb
 | .fin m, .pw e c r, ha, hb => On.bd.more (Nat.le_add_left _ _) (a := .pw e c r) hb
 | .pw e c r, b, ha, hb => by
  rcases cmpE_ways e b.exp with h | h | h
  · rw [addE_lt h]; exact hb.more (Nat.le_add_left _ _)
  · rw [addE_eq h]
    exact ⟨ha.1.more (Nat.le_add_right _ _), Nat.add_le_add ha.2.1 (On.bd_coef hb), (On.bd_rest hb).more (Nat.le_add_left _ _)⟩
  · rw [addE_gt h]
    exact ⟨ha.1.more (Nat.le_add_right _ _), Nat.le_trans ha.2.1 (Nat.le_add_right _ _), addE_bd ha.2.2 hb⟩
theorem addE_nd : ∀ (a b : On), (addE a b).nd ≤ a.nd + b.nd
 | .fin m, .fin n => by show 1 ≤ 1 + 1; omega
 | .fin m, .pw e c r => Nat.le_add_left _ _
 | .pw e c r, b => by
  rcases cmpE_ways e b.exp with h | h | h
  · rw [addE_lt h]; exact Nat.le_add_left _ _
  · rw [addE_eq h]
    show 3 + e.nd + b.rest.nd ≤ 3 + e.nd + r.nd + b.nd
    have : b.rest.nd ≤ b.nd := by
     cases b with
     | fin n => exact Nat.le_refl _
     | pw e c r => show r.nd ≤ 3 + e.nd + r.nd; omega
    omega
  · rw [addE_gt h]
    show 3 + e.nd + (addE r b).nd ≤ 3 + e.nd + r.nd + b.nd
    have := addE_nd r b
    omega
inductive Sd where
 | mk (n : Int) (l : List Sd)

mutual
def SdAt (w : World) (S : Nat → Prop) : Sd → List Value → Prop
 | .mk n l, cs => ∃ A c, cs = [.int .i64 n, .slice A l.length c] ∧ I64 n ∧ l.length ≤ c ∧ c ≤ maxLen ∧
  (0 < l.length → ∃ b o, A = some ⟨b, o, none⟩ ∧ S b ∧ SdsAt w S b o l)
def SdsAt (w : World) (S : Nat → Prop) (b o : Nat) : List Sd → Prop
 | [] => True
 | r :: rs => (∃ cs, SdAt w S r cs ∧ ∀ j u, cs[j]? = some u → w.cell? ⟨b, o + j, none⟩ = some u) ∧ SdsAt w S b (o + 2) rs
end
mutual
theorem SdAt.keep {w w' : World} {S : Nat → Prop} (hk : ∀ p : Addr, S p.block → w'.cell? p = w.cell? p) : ∀ (r : Sd) (cs : List Value), SdAt w S r cs → SdAt w' S r cs
 | .mk n l, cs, h => by
  unfold SdAt at h ⊢
  obtain ⟨A, c, h1, h2, h4, h5, h6⟩ := h
  refine ⟨A, c, h1, h2, h4, h5, fun hl => ?_⟩
  obtain ⟨b, o, e, hb, hr⟩ := h6 hl
  exact ⟨b, o, e, hb, SdsAt.keep hk b o hb l hr⟩
theorem SdsAt.keep {w w' : World} {S : Nat → Prop} (hk : ∀ p : Addr, S p.block → w'.cell? p = w.cell? p) (b o : Nat) (hb : S b) : ∀ l : List Sd, SdsAt w S b o l → SdsAt w' S b o l
 | [], _ => by unfold SdsAt; trivial
 | r :: rs, h => by
  unfold SdsAt at h ⊢
  obtain ⟨⟨cs, h1, h2⟩, h3⟩ := h
  exact ⟨⟨cs, SdAt.keep hk r cs h1, fun j u hj => (hk ⟨b, o + j, none⟩ hb).trans (h2 j u hj)⟩, SdsAt.keep hk b (o + 2) hb rs h3⟩
end
theorem SdAt.below {w w' : World} {S : Nat → Prop} {B : Nat} {r : Sd} {cs : List Value} (h : SdAt w S r cs) (hS : ∀ b, S b → b < B) (hb : Below B w w') : SdAt w' S r cs := h.keep fun q hq => hb.cell (hS q.block hq)
theorem SdsAt.get {w : World} {S : Nat → Prop} {b : Nat} : ∀ {l : List Sd} {o i : Nat} (hi : i < l.length), SdsAt w S b o l → ∃ cs, SdAt w S l[i] cs ∧ ∀ j u, cs[j]? = some u → w.cell? ⟨b, o + i * 2 + j, none⟩ = some u
 | r :: rs, o, 0, hi, h => by
  unfold SdsAt at h
  obtain ⟨cs, h1, h2⟩ := h.1
  exact ⟨cs, h1, fun j u hj => by rw [Nat.zero_mul, Nat.add_zero]; exact h2 j u hj⟩
 | r :: rs, o, i + 1, hi, h => by
  unfold SdsAt at h
  obtain ⟨cs, h1, h2⟩ := SdsAt.get (l := rs) (o := o + 2) (i := i) (by simpa using hi) h.2
  exact ⟨cs, h1, fun j u hj => by rw [show o + (i + 1) * 2 + j = o + 2 + i * 2 + j from by omega]; exact h2 j u hj⟩
mutual
theorem Sd.ind {P : Sd → Prop} (h : ∀ n l, (∀ r ∈ l, P r) → P (.mk n l)) : ∀ r, P r
 | .mk n l => h n l (Sd.inds h l)
theorem Sd.inds {P : Sd → Prop} (h : ∀ n l, (∀ r ∈ l, P r) → P (.mk n l)) : ∀ l : List Sd, ∀ r ∈ l, P r
 | [] => fun r hr => by simp at hr
 | x :: xs => fun r hr => by
  rcases List.mem_cons.1 hr with e | e
  · rw [e]; exact Sd.ind h x
  · exact Sd.inds h xs r e
end
mutual
def Sd.cnt : Sd → Nat
 | .mk _ l => 1 + Sd.cnts l
def Sd.cnts : List Sd → Nat
 | [] => 0
 | r :: rs => r.cnt + Sd.cnts rs
end
mutual
def Sd.ok : Sd → Prop
 | .mk _ l => l.length ≤ 3 ∧ Sd.oks l
def Sd.oks : List Sd → Prop
 | [] => True
 | r :: rs => r.ok ∧ Sd.oks rs
end
def On.len : On → Nat
 | .fin _ => 0
 | .pw _ _ r => 1 + r.len
theorem On.len_rest (a : On) : a.rest.len ≤ a.len := by
 cases a with
 | fin n => exact Nat.le_refl _
 | pw e c r => show r.len ≤ 1 + r.len; omega
theorem addE_len : ∀ (a b : On), (addE a b).len ≤ a.len + b.len
 | .fin m, .fin n => Nat.zero_le _
 | .fin m, .pw e c r => Nat.le_add_left _ _
 | .pw e c r, b => by
  rcases cmpE_ways e b.exp with h | h | h
  · rw [addE_lt h]; exact Nat.le_add_left _ _
  · rw [addE_eq h]
    have := b.len_rest
    show 1 + b.rest.len ≤ 1 + r.len + b.len
    by_cases h0 : b.rest.len = 0
    · omega
    · omega
  · rw [addE_gt h]
    have := addE_len r b
    show 1 + (addE r b).len ≤ 1 + r.len + b.len
    omega
structure On.sm (a : On) (N L K : Nat) : Prop where
 nf : a.nf
 nd : a.nd ≤ N
 len : a.len ≤ L
 bd : a.bd K
theorem On.sm.more {a : On} {N L K N' L' K' : Nat} (h : a.sm N L K) (h1 : N ≤ N') (h2 : L ≤ L') (h3 : K ≤ K') : a.sm N' L' K' :=
 ⟨h.nf, Nat.le_trans h.nd h1, Nat.le_trans h.len h2, h.bd.more h3⟩
theorem On.sm.add {a b : On} {N L K N' L' K' : Nat} (h : a.sm N L K) (h' : b.sm N' L' K') : (addE a b).sm (N + N') (L + L') (K + K') :=
 ⟨addE_nf _ _ h.nf h'.nf, Nat.le_trans (addE_nd _ _) (Nat.add_le_add h.nd h'.nd), Nat.le_trans (addE_len _ _) (Nat.add_le_add h.len h'.len), addE_bd h.bd h'.bd⟩
def Hd (w : World) (o : Ob) (p : Value) : Prop := Pair w (Has w) o p
theorem Hd.below {w w' : World} {o : Ob} {p : Value} (h : Hd w o p) (hb : Below w.heap.size w w') : Hd w' o p :=
 (Pair.below h (In.has w) hb).more fun b hb' => Nat.lt_of_lt_of_le hb' hb.size
theorem Pair.hd {w : World} {S : Nat → Prop} {o : Ob} {p : Value} (h : Pair w S o p) (hS : In S w) : Hd w o p := h.more hS
def RetH (w : World) (o : Ob) (e : Ending) (w' : World) : Prop := ∃ p, e = .returned (vO o p) ∧ Hd w' o p ∧ Below w.heap.size w w'
theorem RetO.h {w w' : World} {S : Nat → Prop} {o : Ob} {e : Ending} (h : RetO w S o e w') (hS : In S w) : RetH w o e w' := by
 obtain ⟨p, h1, h2, h3⟩ := h
 exact ⟨p, h1, h2.hd (hS.upto h3.size), h3⟩
theorem RetN.h {w w' : World} {q : Rat} {e : Ending} (h : RetN w q e w') : RetH w (.num q) e w' := ⟨.slice none 0 0, h.1, rfl, h.2⟩
theorem Hd.flat {w : World} {o : Ob} {p : Value} (h : Hd w o p) (ho : o.isCons = false) : p = .slice none 0 0 := Pair.flat h ho
theorem Hd.new {w w' : World} {o : Ob} {p : Value} (h : Hd w o p) (hk : ∀ b, b < w.heap.size → w'.heap[b]? = w.heap[b]?) (hs : w.heap.size ≤ w'.heap.size) : Hd w' o p :=
 Pair.keep (fun b hb => Nat.lt_of_lt_of_le hb hs) (fun b hb => hk b hb) h

def Bx (W : World) (g : Nat) (x : Array Value) : Prop := W.heap[g]? = some (.cells x 47 (0, 0))
theorem Bx.below {W W' : World} {g B : Nat} {x : Array Value} (h : Bx W g x) (hb : Below B W W') (hg : g < B) : Bx W' g x := (hb.block g hg).trans h
theorem Bx.lt {W : World} {g : Nat} {x : Array Value} (h : Bx W g x) : g < W.heap.size := by
 rcases Nat.lt_or_ge g W.heap.size with hlt | hge
 · exact hlt
 · unfold Bx at h; rw [Array.getElem?_eq_none hge] at h; cases h
theorem Bx.keep {W W' : World} {g : Nat} {x : Array Value} (h : Bx W g x) (hb : Below W.heap.size W W') : Bx W' g x := h.below hb h.lt
theorem Bx.c {W : World} {g : Nat} {a0 a1 a2 a3 a4 a5 a6 : Value} (h : Bx W g #[a0, a1, a2, a3, a4, a5, a6]) :
 W.cell? ⟨g, 0, none⟩ = some a0 ∧ W.cell? ⟨g, 1, none⟩ = some a1 ∧ W.cell? ⟨g, 2, none⟩ = some a2 ∧ W.cell? ⟨g, 3, none⟩ = some a3 ∧ W.cell? ⟨g, 4, none⟩ = some a4 ∧ W.cell? ⟨g, 5, none⟩ = some a5 ∧ W.cell? ⟨g, 6, none⟩ = some a6 := (row7 h).1
def aO (w : World) (x : Array Value) : World := w.alloc (.cells x 47)
theorem aO_new (w : World) (x : Array Value) : Bx (aO w x) w.heap.size x := heap_alloc_new w _
theorem aO_size (w : World) (x : Array Value) : (aO w x).heap.size = w.heap.size + 1 := by unfold aO; simp
theorem aO_below (w : World) (x : Array Value) : Below w.heap.size w (aO w x) := Below.alloc (Below.refl _ _) (Nat.le_refl _) _
structure Bx1 (w W : World) (x0 : Array Value) : Prop where
 bel : Below w.heap.size w W
 b0 : Bx W w.heap.size x0
theorem Bx1.new (w : World) (x0 : Array Value) : Bx1 w (w.alloc (.cells x0 47)) x0 := ⟨aO_below w x0, aO_new w x0⟩
structure Bx2 (w W : World) (x0 x1 : Array Value) : Prop where
 bel : Below w.heap.size w W
 b0 : Bx W w.heap.size x0
 b1 : Bx W (w.heap.size + 1) x1
theorem Bx2.new (w : World) (x0 x1 : Array Value) : Bx2 w ((w.alloc (.cells x0 47)).alloc (.cells x1 47)) x0 x1 := by
 have h := aO_below (aO w x0) x1
 have s := aO_size w x0
 refine ⟨(aO_below w x0).trans (h.mono (by omega)), (aO_new w x0).below h (by omega), ?_⟩
 have := aO_new (aO w x0) x1
 rw [s] at this
 exact this
structure Bx3 (w W : World) (x0 x1 x2 : Array Value) : Prop where
 bel : Below w.heap.size w W
 b0 : Bx W w.heap.size x0
 b1 : Bx W (w.heap.size + 1) x1
 b2 : Bx W (w.heap.size + 1 + 1) x2
theorem Bx3.new (w : World) (x0 x1 x2 : Array Value) : Bx3 w (((w.alloc (.cells x0 47)).alloc (.cells x1 47)).alloc (.cells x2 47)) x0 x1 x2 := by
 have T := Bx2.new w x0 x1
 have h := aO_below (aO (aO w x0) x1) x2
 have s : (aO (aO w x0) x1).heap.size = w.heap.size + 1 + 1 := by rw [aO_size, aO_size]
 refine ⟨T.bel.trans (h.mono (by omega)), T.b0.below h (by omega), T.b1.below h (by omega), ?_⟩
 have := aO_new (aO (aO w x0) x1) x2
 rw [s] at this
 exact this
structure Bx4 (w W : World) (x0 x1 x2 x3 : Array Value) : Prop where
 bel : Below w.heap.size w W
 b0 : Bx W w.heap.size x0
 b1 : Bx W (w.heap.size + 1) x1
 b2 : Bx W (w.heap.size + 1 + 1) x2
 b3 : Bx W (w.heap.size + 1 + 1 + 1) x3
theorem Bx4.new (w : World) (x0 x1 x2 x3 : Array Value) : Bx4 w ((((w.alloc (.cells x0 47)).alloc (.cells x1 47)).alloc (.cells x2 47)).alloc (.cells x3 47)) x0 x1 x2 x3 := by
 have T := Bx3.new w x0 x1 x2
 have h := aO_below (aO (aO (aO w x0) x1) x2) x3
 have s : (aO (aO (aO w x0) x1) x2).heap.size = w.heap.size + 1 + 1 + 1 := by rw [aO_size, aO_size, aO_size]
 refine ⟨T.bel.trans (h.mono (by omega)), T.b0.below h (by omega), T.b1.below h (by omega), T.b2.below h (by omega), ?_⟩
 have := aO_new (aO (aO (aO w x0) x1) x2) x3
 rw [s] at this
 exact this
theorem Bx.set {W : World} {g : Nat} {x y : Array Value} (h : Bx W g x) : Bx (W.setRow g y) g y := setRow_heap _ _ _ _ _ _ h
theorem Bx.other {W : World} {g k : Nat} {x y : Array Value} (h : Bx W g x) (hk : g ≠ k) : Bx (W.setRow k y) g x := (setRow_other W k g y hk).trans h
theorem Bx3.n1 {w W : World} {x0 x1 x2 y : Array Value} (T : Bx3 w W x0 x1 x2) : Bx (W.setRow w.heap.size y) (w.heap.size + 1) x1 := T.b1.other (by omega)
theorem Bx3.n2 {w W : World} {x0 x1 x2 y y' : Array Value} (T : Bx3 w W x0 x1 x2) : Bx ((W.setRow w.heap.size y).setRow (w.heap.size + 1) y') (w.heap.size + 1 + 1) x2 := (T.b2.other (by omega)).other (by omega)
structure Pt3 (w X : World) (o0 o1 o2 : Ob) (p0 p1 p2 : Value) : Prop where
 bel : Below w.heap.size w X
 b0 : Bx X w.heap.size (cellsO o0 p0).toArray
 b1 : Bx X (w.heap.size + 1) (cellsO o1 p1).toArray
 b2 : Bx X (w.heap.size + 1 + 1) (cellsO o2 p2).toArray
theorem Pt3.new {w : World} {o0 o1 o2 : Ob} {p0 p1 p2 : Value} {z0 z1 z2 : Array Value} :
 Pt3 w (World.setRow (World.setRow (World.setRow (((w.alloc (.cells z0 47)).alloc (.cells z1 47)).alloc (.cells z2 47)) w.heap.size (cellsO o0 p0).toArray) (w.heap.size + 1) (cellsO o1 p1).toArray) (w.heap.size + 1 + 1) (cellsO o2 p2).toArray) o0 o1 o2 p0 p1 p2 := by
 have T := Bx3.new w z0 z1 z2
 refine ⟨below_setRowO (below_setRowO (below_setRowO T.bel (Nat.le_refl _) _) (by omega) _) (by omega) _, ?_, ?_, ?_⟩
 · exact (T.b0.set.other (by omega)).other (by omega)
 · exact ((T.b1.other (by omega)).set).other (by omega)
 · exact ((T.b2.other (by omega)).other (by omega)).set
section
variable {P : Program} {Q : Exit → Act → World → Prop} {ops : Array Oper} {K : Act → World → Prop} {a : Act} {w : World} {i : Nat} {o : Oper}
end

theorem Pair.box {w : World} {S : Nat → Prop} {g : Nat} {x : Array Value} (hg : Bx w g x) (hx : x.size = 7) (y : Array Value) : ∀ {o : Ob} {p : Value}, Pair w S o p → Pair (w.setRow g y) S o p
 | .num _, _, h => h
 | .str _, _, h => h
 | .sym _ _, _, h => h
 | .cons a d, p, ⟨b, o, c, pa, pd, h1, h2, h3, h4, h5, h6⟩ => by
  have hne : ¬ b = g := by
   rintro rfl
   have hl : 13 < (cellsO a pa ++ cellsO d pd).length := by rw [List.length_append, cellsO_length, cellsO_length]; omega
   have := h4 13 _ (List.getElem?_eq_getElem hl)
   rw [cell_of_row _ _ _ _ _ _ hg, Array.getElem?_eq_none (by omega)] at this
   cases this
  have hk : (w.setRow g y).heap[b]? = w.heap[b]? := setRow_other w g b y hne
  exact ⟨b, o, c, pa, pd, h1, h2, ⟨h3.1, h3.2.keep hk⟩, fun j u hj => (World.cell?_of_block (a := ⟨b, o + j, none⟩) hk).trans (h4 j u hj), Pair.box hg hx y h5, Pair.box hg hx y h6⟩
theorem Hd.box {w : World} {g : Nat} {x : Array Value} {o : Ob} {p : Value} (h : Hd w o p) (hg : Bx w g x) (hx : x.size = 7) (y : Array Value) : Hd (w.setRow g y) o p :=
 (Pair.box hg hx y h).more fun b hb => by unfold Has at hb ⊢; rw [size_setRow]; exact hb
end Go.Proofs.YtflnffgohbbhiaaGreatDoor
