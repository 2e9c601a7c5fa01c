/- Objects behind pointers; the program's isCons, IsNil, IsInteger, countNodes, Nodes. -/
import Derived.Test.YtfnkmgipjemkdaaDoorConL
import Derived.Test.YtfnkmgipjemkdaaDoorBd
import Derived.LaidEqlPtr
namespace Go.Proofs.YtfnkmgipjemkdaaDoor
open Go Go.RowKit
set_option linter.unusedVariables false

/-- The object o with the last field p lies at ⟨b, k⟩. -/
def At (w : World) (S : Nat → Prop) (o : Ob) (b k : Nat) (p : Value) : Prop :=
  (S b ∧ Plain w b) ∧ (∀ j u, (cellsO o p)[j]? = some u → w.cell? ⟨b, k + j, none⟩ = some u) ∧ Pair w S o p
theorem At.keep {w w' : World} {S S' : Nat → Prop} (hS : ∀ b, S b → S' b) (hk : ∀ b, S b → w'.heap[b]? = w.heap[b]?) {o : Ob} {b k : Nat} {p : Value} (h : At w S o b k p) : At w' S' o b k p :=
  ⟨⟨hS b h.1.1, h.1.2.keep (hk b h.1.1)⟩, fun j u hj => (World.cell?_of_block (a := ⟨b, k + j, none⟩) (hk b h.1.1)).trans (h.2.1 j u hj), h.2.2.keep hS hk⟩
theorem At.below {w w' : World} {S : Nat → Prop} {B : Nat} {o : Ob} {b k : Nat} {p : Value} (h : At w S o b k p) (hS : ∀ b, S b → b < B) (hb : Below B w w') : At w' S o b k p := h.keep (fun _ h => h) fun q hq => hb.block q (hS q hq)
theorem At.more {w : World} {S S' : Nat → Prop} {o : Ob} {b k : Nat} {p : Value} (h : At w S o b k p) (hS : ∀ b, S b → S' b) : At w S' o b k p := h.keep hS fun _ _ => rfl
theorem At.cells {w : World} {S : Nat → Prop} {o : Ob} {b k : Nat} {p : Value} (h : At w S o b k p) : ∃ x0 x1 x2 x3 x4 x5, cellsO o p = [x0, x1, x2, x3, x4, x5, p] ∧
    w.cell? ⟨b, k, none⟩ = some x0 ∧ w.cell? ⟨b, k + 1, none⟩ = some x1 ∧ w.cell? ⟨b, k + 2, none⟩ = some x2 ∧ w.cell? ⟨b, k + 3, none⟩ = some x3 ∧ w.cell? ⟨b, k + 4, none⟩ = some x4 ∧ w.cell? ⟨b, k + 5, none⟩ = some x5 ∧ w.cell? ⟨b, k + 6, none⟩ = some p := by
  obtain ⟨x0, x1, x2, x3, x4, x5, e⟩ := cells7 o p
  have hc := h.2.1
  rw [e] at hc
  exact ⟨x0, x1, x2, x3, x4, x5, e, hc 0 _ rfl, hc 1 _ rfl, hc 2 _ rfl, hc 3 _ rfl, hc 4 _ rfl, hc 5 _ rfl, hc 6 _ rfl⟩
theorem At.last {w : World} {S : Nat → Prop} {o : Ob} {b k : Nat} {p : Value} (h : At w S o b k p) : w.cell? ⟨b, k + 6, none⟩ = some p := by
  obtain ⟨_, _, _, _, _, _, _, _, _, _, _, _, _, h6⟩ := h.cells; exact h6
/-- A pair's two elements, each behind its address. -/
theorem Pair.parts {w : World} {S : Nat → Prop} {a d : Ob} {p : Value} (h : Pair w S (.cons a d) p) : ∃ b o c pa pd, p = .slice (some ⟨b, o, none⟩) 2 c ∧ 2 ≤ c ∧ At w S a b o pa ∧ At w S d b (o + 7) pd := by
  obtain ⟨b, o, c, pa, pd, h1, h2, h3, h4, h5, h6⟩ := h
  refine ⟨b, o, c, pa, pd, h1, h2, ⟨h3, fun j u hj => h4 j u ?_, h5⟩, ⟨h3, fun j u hj => ?_, h6⟩⟩
  · rw [List.getElem?_append_left (by
      rcases Nat.lt_or_ge j (cellsO a pa).length with hlt | hge
      · exact hlt
      · rw [List.getElem?_eq_none hge] at hj; cases hj)]
    exact hj
  · rw [show o + 7 + j = o + (7 + j) from by omega]
    refine h4 (7 + j) u ?_
    rw [List.getElem?_append_right (by rw [cellsO_length]; omega), cellsO_length, show 7 + j - 7 = j from by omega]
    exact hj
/-- The last field of an object that is no cons is nil. -/
theorem Pair.flat {w : World} {S : Nat → Prop} {o : Ob} {p : Value} (h : Pair w S o p) (ho : o.isCons = false) : p = .slice none 0 0 := by
  cases o with
  | cons a d => simp [Ob.isCons] at ho
  | _ => exact h

theorem BA_inj {l m : List UInt8} (h : BA l = BA m) : l = m := by
  have := congrArg LA h
  rwa [LA_BA, LA_BA] at this
theorem cells_inj {w : World} {S S' : Nat → Prop} : ∀ {a a' : Ob} {p p' : Value}, cellsO a p = cellsO a' p' → Pair w S a p → Pair w S' a' p' → a = a' ∧ p = p'
  | .num q, .num q', p, p', h, _, _ => by
    unfold cellsO at h
    simp only [List.cons.injEq, Value.string.injEq, and_true, true_and] at h
    exact ⟨by rw [q_ext h.1 h.2.1], h.2.2⟩
  | .str s, .str s', p, p', h, _, _ => by
    unfold cellsO at h
    simp only [List.cons.injEq, Value.string.injEq, and_true, true_and] at h
    exact ⟨by rw [BA_inj h.1], h.2⟩
  | .sym x y, .sym x' y', p, p', h, _, _ => by
    unfold cellsO at h
    simp only [List.cons.injEq, Value.string.injEq, and_true, true_and] at h
    exact ⟨by rw [BA_inj h.1, BA_inj h.2.1], h.2.2⟩
  | .cons a d, .cons a' d', p, p', h, hp, hp' => by
    unfold cellsO at h
    simp only [List.cons.injEq, and_true, true_and] at h
    subst h
    obtain ⟨b, o, c, pa, pd, rfl, h2, h3, h4, h5, h6⟩ := hp
    obtain ⟨b', o', c', pa', pd', e, h2', h3', h4', h5', h6'⟩ := hp'
    simp only [Value.slice.injEq, Option.some.injEq, Addr.mk.injEq, true_and, and_true] at e
    obtain ⟨⟨rfl, rfl⟩, rfl⟩ := e
    have key : cellsO a pa ++ cellsO d pd = cellsO a' pa' ++ cellsO d' pd' := by
      apply List.ext_getElem?
      intro j
      by_cases hj : j < 14
      · have l1 : j < (cellsO a pa ++ cellsO d pd).length := by rw [List.length_append, cellsO_length, cellsO_length]; omega
        have l2 : j < (cellsO a' pa' ++ cellsO d' pd').length := by rw [List.length_append, cellsO_length, cellsO_length]; omega
        have e1 := h4 j _ (List.getElem?_eq_getElem l1)
        have e2 := h4' j _ (List.getElem?_eq_getElem l2)
        rw [List.getElem?_eq_getElem l1, List.getElem?_eq_getElem l2, ← e1, ← e2]
      · rw [List.getElem?_eq_none (by rw [List.length_append, cellsO_length, cellsO_length]; omega), List.getElem?_eq_none (by rw [List.length_append, cellsO_length, cellsO_length]; omega)]
    have k1 : cellsO a pa = cellsO a' pa' ∧ cellsO d pd = cellsO d' pd' := List.append_inj key (by rw [cellsO_length, cellsO_length])
    obtain ⟨ea, _⟩ := cells_inj k1.1 h5 h5'
    obtain ⟨ed, _⟩ := cells_inj k1.2 h6 h6'
    exact ⟨by rw [ea, ed], rfl⟩
  | .num _, .str _, _, _, h, _, _ => by simp [cellsO] at h
  | .num _, .sym _ _, _, _, h, _, _ => by simp [cellsO] at h
  | .num _, .cons _ _, _, _, h, _, _ => by simp [cellsO] at h
  | .str _, .num _, _, _, h, _, _ => by simp [cellsO] at h
  | .str _, .sym _ _, _, _, h, _, _ => by simp [cellsO] at h
  | .str _, .cons _ _, _, _, h, _, _ => by simp [cellsO] at h
  | .sym _ _, .num _, _, _, h, _, _ => by simp [cellsO] at h
  | .sym _ _, .str _, _, _, h, _, _ => by simp [cellsO] at h
  | .sym _ _, .cons _ _, _, _, h, _, _ => by simp [cellsO] at h
  | .cons _ _, .num _, _, _, h, _, _ => by simp [cellsO] at h
  | .cons _ _, .str _, _, _, h, _, _ => by simp [cellsO] at h
  | .cons _ _, .sym _ _, _, _, h, _, _ => by simp [cellsO] at h
/-- At one address lies one object. -/
theorem At.inj {w : World} {S S' : Nat → Prop} {a a' : Ob} {b k : Nat} {p p' : Value} (h : At w S a b k p) (h' : At w S' a' b k p') : a = a' := by
  refine (cells_inj (w := w) (List.ext_getElem? fun j => ?_) h.2.2 h'.2.2).1
  by_cases hj : j < 7
  · have l1 : j < (cellsO a p).length := by rw [cellsO_length]; omega
    have l2 : j < (cellsO a' p').length := by rw [cellsO_length]; omega
    have e1 := h.2.1 j _ (List.getElem?_eq_getElem l1)
    have e2 := h'.2.1 j _ (List.getElem?_eq_getElem l2)
    rw [List.getElem?_eq_getElem l1, List.getElem?_eq_getElem l2, ← e1, ← e2]
  · rw [List.getElem?_eq_none (by rw [cellsO_length]; omega), List.getElem?_eq_none (by rw [cellsO_length]; omega)]

set_option maxHeartbeats 1000000 in
set_option maxRecDepth 100000 in
theorem isConsP (a : Ob) (b k : Nat) (p : Value) (w : World) (S : Nat → Prop) (h : At w S a b k p) :
    Calls Tryd.prog 48 #[.pointer (some ⟨b, k, none⟩)] w fun e w' => e = .returned (.bool a.isCons) ∧ w = w' := by
  obtain ⟨x0, x1, x2, x3, x4, x5, e, l0, l1, l2, l3, l4, l5, l6⟩ := h.cells
  cases a with
  | cons a d =>
    obtain ⟨b', o', c', pa, pd, rfl, hc, _, _⟩ := h.2.2.parts
    have e0 : x0 = .int .i64 4 := by simp only [cellsO, List.cons.injEq] at e; exact e.1.symm
    subst e0
    clear e l1 l2 l3 l4 l5 h
    go_enter Tryd.func48, Tryd.ntmps48
    go_wp2
    go_ret
    exact ⟨rfl, rfl⟩
  | num q =>
    have e0 : x0 = .int .i64 1 := by simp only [cellsO, List.cons.injEq] at e; exact e.1.symm
    subst e0
    clear e l1 l2 l3 l4 l5 h
    go_enter Tryd.func48, Tryd.ntmps48
    go_wp2
    go_ret
    exact ⟨rfl, rfl⟩
  | str s =>
    have e0 : x0 = .int .i64 3 := by simp only [cellsO, List.cons.injEq] at e; exact e.1.symm
    subst e0
    clear e l1 l2 l3 l4 l5 h
    go_enter Tryd.func48, Tryd.ntmps48
    go_wp2
    go_ret
    exact ⟨rfl, rfl⟩
  | sym s n =>
    have e0 : x0 = .int .i64 2 := by simp only [cellsO, List.cons.injEq] at e; exact e.1.symm
    subst e0
    clear e l1 l2 l3 l4 l5 h
    go_enter Tryd.func48, Tryd.ntmps48
    go_wp2
    go_ret
    exact ⟨rfl, rfl⟩

/-- The call returned a bool; what was there before stands. -/
def RetB (w : World) (r : Bool) (e : Ending) (w' : World) : Prop := e = .returned (.bool r) ∧ Below w.heap.size w w'
set_option maxHeartbeats 1000000 in
set_option maxRecDepth 100000 in
theorem isNilRaw (k : Int) (s1 s2 s3 s4 s5 : ByteArray) (p : Value) (w : World) :
    Calls Tryd.prog 20 #[.agg #[.int .i64 k, .string s1, .string s2, .string s3, .string s4, .string s5, p]] w (RetB w (k == 2 && (s3.toList == lispB && s4.toList == [110, 105, 108]))) := by
  unfold lispB
  cases h1 : (k == 2) with
  | false =>
    go_enter Tryd.func20, Tryd.ntmps20
    go_wp2
    go_ret
    exact ⟨rfl, Below.alloc (Below.refl _ _) (Nat.le_refl _) _⟩
  | true =>
    cases h2 : (s3.toList == [108, 105, 115, 112]) with
    | false =>
      go_enter Tryd.func20, Tryd.ntmps20
      go_wp2
      go_ret
      exact ⟨rfl, Below.alloc (Below.refl _ _) (Nat.le_refl _) _⟩
    | true =>
      cases h3 : (s4.toList == [110, 105, 108]) with
      | false =>
        go_enter Tryd.func20, Tryd.ntmps20
        go_wp2
        go_ret
        exact ⟨rfl, Below.alloc (Below.refl _ _) (Nat.le_refl _) _⟩
      | true =>
        go_enter Tryd.func20, Tryd.ntmps20
        go_wp2
        go_ret
        exact ⟨rfl, Below.alloc (Below.refl _ _) (Nat.le_refl _) _⟩
theorem BA_toList (l : List UInt8) : (BA l).toList = l := by rw [Lib.toList_data]; unfold BA; simp
/-- The six cells ahead of the last field. -/
theorem cells_flat (o : Ob) (p : Value) : ∃ (k : Int) (s1 s2 s3 s4 s5 : ByteArray), cellsO o p = [.int .i64 k, .string s1, .string s2, .string s3, .string s4, .string s5, p] ∧
    (k == 2 && (s3.toList == lispB && s4.toList == [110, 105, 108])) = decide (o = .nil) ∧ (k == 1 && (s2.toList == [49])) = (match o with | .num q => decide (q.den = 1) | _ => false) := by
  cases o with
  | num q =>
    refine ⟨1, nt q, dt q, ⟨#[]⟩, ⟨#[]⟩, ⟨#[]⟩, rfl, by simp [Ob.nil], ?_⟩
    simp only [beq_self_eq_true, Bool.true_and]
    have e : (⟨#[49]⟩ : ByteArray) = BA (text 1) := by decide
    by_cases h : q.den = 1
    · rw [decide_eq_true h]; unfold dt; rw [h, BA_toList]; decide
    · rw [decide_eq_false h]
      have := beq_BA (text (q.den : Int)) [49]
      rw [BA_toList [49]] at this
      unfold dt
      rw [this, decide_eq_false]
      intro e
      have e2 := congrArg val e
      rw [val_text, show val [49] = 1 from by decide] at e2
      omega
  | str s => exact ⟨3, ⟨#[]⟩, ⟨#[]⟩, ⟨#[]⟩, ⟨#[]⟩, BA s, rfl, by simp [Ob.nil], rfl⟩
  | sym x y =>
    refine ⟨2, ⟨#[]⟩, ⟨#[]⟩, BA x, BA y, ⟨#[]⟩, rfl, ?_, rfl⟩
    have h1 := beq_BA x lispB
    have h2 := beq_BA y [110, 105, 108]
    rw [BA_toList lispB] at h1
    rw [BA_toList [110, 105, 108]] at h2
    rw [h1, h2, ← Bool.decide_and]
    simp [Ob.nil]
  | cons a d => exact ⟨4, ⟨#[]⟩, ⟨#[]⟩, ⟨#[]⟩, ⟨#[]⟩, ⟨#[]⟩, rfl, by simp [Ob.nil], rfl⟩
def Ob.isInt : Ob → Bool
  | .num q => decide (q.den = 1)
  | _ => false
theorem isNilP (o : Ob) (p : Value) (w : World) : Calls Tryd.prog 20 #[vO o p] w (RetB w (decide (o = .nil))) := by
  obtain ⟨k, s1, s2, s3, s4, s5, e, e1, _⟩ := cells_flat o p
  unfold vO
  rw [e, ← e1]
  exact isNilRaw k s1 s2 s3 s4 s5 p w
end Go.Proofs.YtfnkmgipjemkdaaDoor

/- The program's countNodes, Nodes. -/
namespace Go.Proofs.YtfnkmgipjemkdaaDoor
open Go Go.RowKit
set_option linter.unusedVariables false

/-- Between rounds: the object x lies at ⟨b, k⟩, m nodes are counted. -/
def CntW (w wr : World) (S : Nat → Prop) (x : Ob) (b k : Nat) (m r : Int) : Prop := (∃ p, At w S x b k p) ∧ m + x.nodes = r ∧ w = wr

set_option maxHeartbeats 2000000 in
set_option maxRecDepth 100000 in
theorem countO : ∀ (N : Nat) (a : Ob) (b k : Nat) (p : Value) (m : Int) (w : World) (S : Nat → Prop), a.nodes ≤ N → At w S a b k p → 0 ≤ m → m + a.nodes ≤ 3000 →
    Calls Tryd.prog 32 #[.pointer (some ⟨b, k, none⟩), .int .i64 m] w fun e w' => e = .returned (.int .i64 (m + a.nodes)) ∧ w = w' := by
  intro N
  induction N with
  | zero => intro a b k p m w S hN; have := a.nodes_pos; omega
  | succ N IH =>
    intro a b k p m w S hN h hm hmn
    have pos := a.nodes_pos
    have IH' := Lib.hid IH
    clear IH
    obtain ⟨R, hR⟩ : ∃ R : Int, m + a.nodes = R := ⟨_, rfl⟩
    rw [hR] at hmn ⊢
    have h0 : Hid (CntW w w S a b k m R) := ⟨⟨p, h⟩, hR, rfl⟩
    clear h hR
    go_enter Tryd.func32, Tryd.ntmps32
    go_wp2_with fail
    go_loopg [0, 1] a.nodes (fun n u v wr => ∃ (x : Ob) (b k : Nat) (m : Int), u = .pointer (some ⟨b, k, none⟩) ∧ v = .int .i64 m ∧ 0 ≤ m ∧ x.nodes ≤ n ∧ n ≤ N + 1 ∧ Hid (CntW w wr S x b k m R))
    case atStart => exact ⟨a, b, k, m, rfl, rfl, hm, Nat.le_refl _, hN, h0⟩
    case round =>
      clear h0
      obtain ⟨x, b, k, m, rfl, rfl, hm, hxn, hnN, hE⟩ := hrel
      obtain ⟨⟨p, h⟩, hR, hw⟩ := hE.out
      subst hw
      clear hE
      have posx := x.nodes_pos
      have l6 := h.last
      cases hx : x.isCons with
      | false =>
        obtain rfl := h.2.2.flat hx
        have hx1 : x.nodes = 1 := by cases x <;> first | rfl | simp [Ob.isCons] at hx
        have hR' : m + 1 = R := by omega
        have hmm : m ≤ 3000 := by omega
        have HR := Lib.hid hR'
        clear hR hR' hx h
        go_wp2
        go_ret
        exact ⟨ret_int HR.out, rfl⟩
      | true =>
        cases x with
        | cons a d =>
          obtain ⟨b', o', c', pa, pd, rfl, hc, hA, hD⟩ := h.2.2.parts
          have hnn : (Ob.cons a d).nodes = 1 + a.nodes + d.nodes := rfl
          have pa1 := a.nodes_pos
          have pd1 := d.nodes_pos
          have call := Lib.hid (IH'.out a b' o' pa (m + 1) w S (by omega) hA (by omega) (by omega))
          have hE2 : Hid (CntW w w S d b' (o' + 7) (m + 1 + a.nodes) R) := ⟨⟨pd, hD⟩, by omega, rfl⟩
          have hq : 0 ≤ m + 1 + a.nodes := by omega
          have hd : d.nodes < gk := by omega
          have hd2 : d.nodes ≤ N + 1 := by omega
          have hmm : m ≤ 3000 := by omega
          have hm3 : m + 1 ≤ 3001 := by omega
          clear hx h hA hD hR hnn
          go_wp2_with fail
          refine call.out.mono ?_
          rintro e w' ⟨rfl, rfl⟩
          go_wp2_with fail
          go_roundg d.nodes
          case measure => exact hd
          case rel => exact ⟨d, b', o' + 7, m + 1 + a.nodes, rfl, rfl, hq, Nat.le_refl _, hd2, hE2⟩
        | _ => simp [Ob.isCons] at hx
theorem nodesP (a : Ob) (p : Value) (w : World) (S : Nat → Prop) (hS : In S w) (h : Pair w S a p) (hn : a.nodes ≤ 3000) :
    Calls Tryd.prog 16 #[vO a p] w (fun e w' => e = .returned (.int .i64 a.nodes) ∧ Below w.heap.size w w') := by
  obtain ⟨x0, x1, x2, x3, x4, x5, e⟩ := cells7 a p
  have hb : Below w.heap.size w (w.alloc (.cells #[x0, x1, x2, x3, x4, x5, p] 27)) := Below.alloc (Below.refl _ _) (Nat.le_refl _) _
  have hA : At (w.alloc (.cells #[x0, x1, x2, x3, x4, x5, p] 27)) (fun b => S b ∨ b = w.heap.size) a w.heap.size 0 p := by
    refine ⟨⟨.inr rfl, _, _, heap_alloc_new w _⟩, fun j u hj => ?_, (h.below hS hb).more fun _ h => .inl h⟩
    rw [Nat.zero_add, cell_of_row _ _ _ _ _ _ (heap_alloc_new w _), ← hj, e]
    simp
  have call := Lib.hid (countO a.nodes a w.heap.size 0 p 0 _ _ (Nat.le_refl _) hA (by omega) (by omega))
  unfold vO
  rw [e]
  clear e hA
  go_enter Tryd.func16, Tryd.ntmps16
  go_wp2_with fail
  refine call.out.mono ?_
  rintro e w' ⟨rfl, rfl⟩
  have HB := Lib.hid hb
  clear hb
  go_wp2
  go_ret
  exact ⟨ret_int (by omega), HB.out⟩
end Go.Proofs.YtfnkmgipjemkdaaDoor

/- The program's length and Items. -/
namespace Go.Proofs.YtfnkmgipjemkdaaDoor
open Go Go.RowKit
set_option linter.unusedVariables false

/-- How many elements, counted from n on; none where the list is not proper. -/
def Ob.cnt : Ob → Nat → Option Nat
  | .cons _ d, n => d.cnt (n + 1)
  | x, n => if x = .nil then some n else none
theorem Ob.cnt_flat {x : Ob} (hx : x.isCons = false) (n : Nat) : x.cnt n = if x = .nil then some n else none := by
  cases x <;> first | rfl | simp [Ob.isCons] at hx
def lenV : Option Nat → Value
  | some n => .tuple #[.int .i64 n, .bool true]
  | none => .tuple #[.int .i64 0, .bool false]
/-- Between rounds. -/
def LenW (w wr : World) (S : Nat → Prop) (x y : Ob) (b k b' k' : Nat) (n : Nat) (r : Option Nat) : Prop :=
  (∃ p, At w S x b k p) ∧ (∃ p, At w S y b' k' p) ∧ x.nodes ≤ y.nodes ∧ x.cnt n = r ∧ w = wr
def RetLen (w : World) (r : Option Nat) (e : Ending) (w' : World) : Prop := e = .returned (lenV r) ∧ Below w.heap.size w w'

theorem ptr_other {w : World} {S S' : Nat → Prop} {x y : Ob} {b k b' k' : Nat} {p p' : Value} (h : At w S x b k p) (h' : At w S' y b' k' p') (hne : x ≠ y) :
    (binOp .eql 49 (.pointer (some ⟨b, k, none⟩)) (.pointer (some ⟨b', k', none⟩))).run Tryd.prog w = .ok (.bool false) w := by
  obtain ⟨_, _, h1⟩ := h.1.2
  obtain ⟨_, _, h2⟩ := h'.1.2
  have e : (Tryd.prog.info? 27).map (fun i => decide (i.size ≠ 0)) = some true := by kernel_rfl
  obtain ⟨j, hj, hs⟩ : ∃ j, Tryd.prog.info? 27 = some j ∧ j.size ≠ 0 := by
    generalize Tryd.prog.info? 27 = i at e
    cases i with
    | none => cases e
    | some j => exact ⟨j, rfl, by simpa using e⟩
  clear e
  exact run_eql_ptr_other w Tryd.underlying49 hj hs (fun e => by
    injection e with e1 e2
    subst e1 e2
    exact hne (h.inj h')) h1 h2

set_option maxHeartbeats 2000000 in
set_option maxRecDepth 100000 in
theorem lengthP (a : Ob) (b k : Nat) (p : Value) (w : World) (S : Nat → Prop) (hS : In S w) (h : At w S a b k p) (hn : a.nodes ≤ 100000) :
    Calls Tryd.prog 31 #[.pointer (some ⟨b, k, none⟩)] w (RetLen w (a.cnt 0)) := by
  obtain ⟨R, hR⟩ : ∃ R, a.cnt 0 = R := ⟨_, rfl⟩
  rw [hR]
  have h0 : Hid (LenW w w S a a b k b k 0 R) := ⟨⟨p, h⟩, ⟨p, h⟩, Nat.le_refl _, hR, rfl⟩
  have pos := a.nodes_pos
  clear h hR
  go_enter Tryd.func31, Tryd.ntmps31
  go_wp2_with fail
  go_loopg [0, 4, 5] a.nodes (fun g u v m wr => ∃ (x y : Ob) (b k b' k' n : Nat), u = .pointer (some ⟨b, k, none⟩) ∧ v = .int .i64 n ∧ m = .pointer (some ⟨b', k', none⟩) ∧ x.nodes ≤ g ∧ n + x.nodes ≤ 100000 ∧ Hid (LenW w wr S x y b k b' k' n R))
  case atStart => exact ⟨a, a, b, k, b, k, 0, rfl, rfl, rfl, Nat.le_refl _, by omega, h0⟩
  case round =>
    clear h0
    obtain ⟨x, y, b, k, b', k', n, rfl, rfl, rfl, hxg, hnx, hE⟩ := hrel
    obtain ⟨⟨p, h⟩, ⟨p', h'⟩, hxy, hR, hw⟩ := hE.out
    subst hw
    clear hE
    have posx := x.nodes_pos
    have l6 := h.last
    have call := Lib.hid (isConsP x b k p w S h)
    cases hx : x.isCons with
    | false =>
      rw [hx] at call
      obtain ⟨x0, x1, x2, x3, x4, x5, e, m0, m1, m2, m3, m4, m5, m6⟩ := h.cells
      have hc := Lib.hid (isNilP x p w)
      have hRR : Hid (R = if decide (x = .nil) then some n else none) := by
        show _ = _
        rw [← hR, Ob.cnt_flat hx]
        simp
      unfold vO at hc
      rw [e] at hc
      clear hR hx h h' l6 e
      generalize decide (x = Ob.nil) = t at hc hRR
      go_wp2_with fail
      refine call.out.mono ?_
      rintro e w' ⟨rfl, rfl⟩
      go_wp2_with fail
      refine hc.out.mono ?_
      rintro e w1 ⟨rfl, hb⟩
      have HB := Lib.hid hb
      clear hb m0 m1 m2 m3 m4 m5 m6
      cases t
      · go_wp2
        go_ret2
        exact ⟨by rw [hRR.out]; rfl, HB.out⟩
      · go_wp2
        go_ret2
        exact ⟨by rw [hRR.out]; rfl, HB.out⟩
    | true =>
      rw [hx] at call
      cases x with
      | cons a d =>
        obtain ⟨c', o', cc, pa, pd, rfl, hcc, hA, hD⟩ := h.2.2.parts
        have hnn : (Ob.cons a d).nodes = 1 + a.nodes + d.nodes := rfl
        have pa1 := a.nodes_pos
        have pd1 := d.nodes_pos
        have he := ptr_other hD h' (fun e => by subst e; omega)
        have hd : d.nodes < gk := by omega
        have hE1 : Hid (LenW w w S d y c' (o' + 7) b' k' (n + 1) R) := ⟨⟨pd, hD⟩, ⟨p', h'⟩, by omega, hR, rfl⟩
        have hE2 : Hid (LenW w w S d d c' (o' + 7) c' (o' + 7) (n + 1) R) := ⟨⟨pd, hD⟩, ⟨pd, hD⟩, Nat.le_refl _, hR, rfl⟩
        have hm : n + 1 + d.nodes ≤ 100000 := by omega
        have hn1 : (n : Int) ≤ 100000 := by omega
        clear h h' hA hD hR hxy hnn hx
        go_wp2_with fail
        refine call.out.mono ?_
        rintro e w' ⟨rfl, rfl⟩
        go_wp2_with fail
        all_goals go_roundg d.nodes
        all_goals first | exact hd | exact ⟨d, d, c', o' + 7, c', o' + 7, n + 1, rfl, by go_num, rfl, Nat.le_refl _, hm, hE2⟩ | exact ⟨d, y, c', o' + 7, b', k', n + 1, rfl, by go_num, rfl, Nat.le_refl _, hm, hE1⟩
      | _ => simp [Ob.isCons] at hx
end Go.Proofs.YtfnkmgipjemkdaaDoor
