/- The reference's Equal: two conses. -/
import Derived.Test.YtfnkmgipjemkdaaDoorHold
import Derived.StillTailTactics
namespace Go.Proofs.YtfnkmgipjemkdaaDoor
open Go Go.RowKit
set_option linter.unusedVariables false

/-- Between rounds: the boxes and the pairs stand. -/
def EqW (w W wr : World) (r0 r1 : Bool) (k : Nat) : Prop := (0 < k → r0 = true) ∧ (1 < k → r1 = true) ∧ Below W.heap.size W wr

def EqPost (w : World) (r : Bool) (e : Ending) (w' : World) : Prop := e = .returned (.bool r) ∧ Below w.heap.size w w'

end Go.Proofs.YtfnkmgipjemkdaaDoor

/- The reference's Equal on all objects. -/
namespace Go.Proofs.YtfnkmgipjemkdaaDoor
open Go Go.RowKit
set_option linter.unusedVariables false

def eqS (s1 s2 s3 s4 s5 t1 t2 t3 t4 t5 : ByteArray) : Bool := s1.toList == t1.toList && s2.toList == t2.toList && (s3.toList == t3.toList && s4.toList == t4.toList) && s5.toList == t5.toList

end Go.Proofs.YtfnkmgipjemkdaaDoor

/- The reference's Equal decides equality of objects. -/
namespace Go.Proofs.YtfnkmgipjemkdaaDoor
open Go Go.RowKit
set_option linter.unusedVariables false

theorem beq_BA (l m : List UInt8) : ((BA l).toList == (BA m).toList) = decide (l = m) := by
  rw [Lib.toList_data, Lib.toList_data]
  by_cases h : l = m
  · subst h; simp
  · rw [decide_eq_false h, beq_eq_false_iff_ne]
    intro e
    apply h
    unfold BA at e
    simpa using e

end Go.Proofs.YtfnkmgipjemkdaaDoor

/- The maker of objects: Mod, User, Sym. -/
namespace Go.Proofs.YtfnkmgipjemkdaaDoor
open Go Go.RowKit
set_option linter.unusedVariables false

theorem tmod_emod (n m : Int) (hm : 0 < m) : (if n.tmod m < 0 then n.tmod m + m else n.tmod m) = n % m := by
  have h := Int.emod_eq_tmod (a := n) (b := m)
  have h1 := Int.emod_nonneg n (show m ≠ 0 by omega)
  have h2 := Int.emod_lt_of_pos n hm
  rcases Int.lt_or_le n 0 with hn | hn
  · have h3 : n.tmod m = -((-n) % m) := by
      rw [← Int.tmod_eq_emod_of_nonneg (by omega), Int.neg_tmod, Int.neg_neg]
    have h4 := Int.emod_nonneg (-n) (show m ≠ 0 by omega)
    have h5 := Int.emod_lt_of_pos (-n) hm
    have h6 : (-n) % m = (if n % m = 0 then 0 else m - n % m) := by
      rw [Int.neg_emod]
      split
      · rename_i g1; rw [if_pos (Int.emod_eq_zero_of_dvd g1)]
      · rename_i g1; rw [if_neg (fun g2 => g1 (Int.dvd_of_emod_eq_zero g2))]; omega
    split at h6 <;> split <;> omega
  · rw [Int.tmod_eq_emod_of_nonneg hn]
    split <;> omega

end Go.Proofs.YtfnkmgipjemkdaaDoor

/- The maker of objects: Sym. -/
namespace Go.Proofs.YtfnkmgipjemkdaaDoor
open Go Go.RowKit
set_option linter.unusedVariables false

/-- The call returned some symbol. -/
def RetSy (w : World) (e : Ending) (w' : World) : Prop := ∃ p n : List UInt8, e = .returned (.agg #[.string (BA p), .string (BA n)]) ∧ Below w.heap.size w w'

theorem storeSy {ops : Array Oper} {rest : List Oper} {o : Oper} {a : Act} {w : World} {Q : Exit → Act → World → Prop} (hgd : o.guard = none) (x y : Operand) (ho : o.op = .store 24 x y)
    (g : Nat) (s1 s2 : ByteArray) (hx : a.eval x = .pointer (some ⟨g, 0, none⟩)) (hy : a.eval y = .agg #[.string s1, .string s2])
    (t : TypeId) (old : Array Value) (hg : w.heap[g]? = some (.cells old t (0, 0))) (hold : old.size = 2)
    (h : wpList Tryd.prog ops Q rest (a.put o.dst undef) (w.setRow g #[.string s1, .string s2])) : wpList Tryd.prog ops Q (o :: rest) a w :=
  wpList_store_row hgd 24 x y ho g _ hx hy t old hg (by kernel_rfl) hold (by simp [Value.oneCell']) h
theorem retSy {fn : Func} {q : Tmp} {w0 : World} {tmps : Array Value} {w : World} {g : Nat} {s1 s2 : ByteArray} {t : TypeId} {old : Array Value} {fr : Nat × Nat}
    (h : fn.results = #[.cell q 24]) (hq : tmps.getD q undef = .pointer (some ⟨g, 0, none⟩)) (hg : w.heap[g]? = some (.cells old t fr))
    (hlt : w0.heap.size ≤ g) (hb : Below w0.heap.size w0 w) :
    bodyPost Tryd.prog fn (RetSy w0) Exit.ret ⟨tmps, []⟩ (w.setRow g #[.string s1, .string s2]) :=
  bodyPost_ret (results_cell_row h tmps _ g t _ fr _ hq (setRow_heap _ _ _ _ _ _ hg) Tryd.underlying24 rfl (by kernel_rfl)) rfl
    ⟨LA s1, LA s2, by rw [BA_LA, BA_LA], below_setRowO hb hlt _⟩

end Go.Proofs.YtfnkmgipjemkdaaDoor

/- Raw trees: the model, how memory holds one, and the maker's count of nodes. -/
namespace Go.Proofs.YtfnkmgipjemkdaaDoor
open Go Go.RowKit
set_option linter.unusedVariables false

/-- A tree of numbers and strings. -/
inductive Rw where
  | mk (k n : Int) (s : ByteArray) (l : List Rw)

def I64 (n : Int) : Prop := -9223372036854775808 ≤ n ∧ n ≤ 9223372036854775807

mutual
/-- The four cells of a tree, as memory has it. -/
def RawAt (w : World) (S : Nat → Prop) : Rw → List Value → Prop
  | .mk k n s l, cs => ∃ A c, cs = [.int .i64 k, .int .i64 n, .string s, .slice A l.length c] ∧ I64 k ∧ I64 n ∧ l.length ≤ c ∧ c ≤ maxLen ∧
      (0 < l.length → ∃ b o, A = some ⟨b, o, none⟩ ∧ S b ∧ RawsAt w S b o l)
/-- Trees one after another from offset o of block b on. -/
def RawsAt (w : World) (S : Nat → Prop) (b o : Nat) : List Rw → Prop
  | [] => True
  | r :: rs => (∃ cs, RawAt w S r cs ∧ ∀ j u, cs[j]? = some u → w.cell? ⟨b, o + j, none⟩ = some u) ∧ RawsAt w S b (o + 4) rs
end

mutual
theorem RawAt.keep {w w' : World} {S : Nat → Prop} (hk : ∀ p : Addr, S p.block → w'.cell? p = w.cell? p) : ∀ (r : Rw) (cs : List Value), RawAt w S r cs → RawAt w' S r cs
  | .mk k n s l, cs, h => by
    unfold RawAt at h ⊢
    obtain ⟨A, c, h1, h2, h3, h4, h5, h6⟩ := h
    refine ⟨A, c, h1, h2, h3, h4, h5, fun hl => ?_⟩
    obtain ⟨b, o, e, hb, hr⟩ := h6 hl
    exact ⟨b, o, e, hb, RawsAt.keep hk b o hb l hr⟩
theorem RawsAt.keep {w w' : World} {S : Nat → Prop} (hk : ∀ p : Addr, S p.block → w'.cell? p = w.cell? p) (b o : Nat) (hb : S b) : ∀ l : List Rw, RawsAt w S b o l → RawsAt w' S b o l
  | [], _ => by unfold RawsAt; trivial
  | r :: rs, h => by
    unfold RawsAt at h ⊢
    obtain ⟨⟨cs, h1, h2⟩, h3⟩ := h
    exact ⟨⟨cs, RawAt.keep hk r cs h1, fun j u hj => (hk ⟨b, o + j, none⟩ hb).trans (h2 j u hj)⟩, RawsAt.keep hk b (o + 4) hb rs h3⟩
end
theorem RawAt.below {w w' : World} {S : Nat → Prop} {B : Nat} {r : Rw} {cs : List Value} (h : RawAt w S r cs) (hS : ∀ b, S b → b < B) (hb : Below B w w') : RawAt w' S r cs := h.keep fun q hq => hb.cell (hS q.block hq)
theorem RawsAt.get {w : World} {S : Nat → Prop} {b : Nat} : ∀ {l : List Rw} {o i : Nat} (hi : i < l.length), RawsAt w S b o l → ∃ cs, RawAt w S l[i] cs ∧ ∀ j u, cs[j]? = some u → w.cell? ⟨b, o + i * 4 + j, none⟩ = some u
  | r :: rs, o, 0, hi, h => by
    unfold RawsAt at h
    obtain ⟨cs, h1, h2⟩ := h.1
    exact ⟨cs, h1, fun j u hj => by rw [Nat.zero_mul, Nat.add_zero]; exact h2 j u hj⟩
  | r :: rs, o, i + 1, hi, h => by
    unfold RawsAt at h
    obtain ⟨cs, h1, h2⟩ := RawsAt.get (l := rs) (o := o + 4) (i := i) (by simpa using hi) h.2
    exact ⟨cs, h1, fun j u hj => by rw [show o + (i + 1) * 4 + j = o + 4 + i * 4 + j from by omega]; exact h2 j u hj⟩

mutual
/-- What the maker's count returns. -/
def leftV : Rw → Int → Int
  | .mk k n s l, m => if 12 < s.size ∨ 6 < l.length then -1 else leftL l (m - 1)
def leftL : List Rw → Int → Int
  | [], m => m
  | r :: rs, m => if 0 ≤ m then leftL rs (leftV r m) else m
end
mutual
theorem leftV_range : ∀ (r : Rw) (m : Int), 0 ≤ m → -1 ≤ leftV r m ∧ leftV r m ≤ m
  | .mk k n s l, m, h => by
    unfold leftV
    split
    · omega
    · have := leftL_range l (m - 1) (by omega); omega
theorem leftL_range : ∀ (l : List Rw) (m : Int), -1 ≤ m → -1 ≤ leftL l m ∧ leftL l m ≤ m
  | [], m, h => by unfold leftL; omega
  | r :: rs, m, h => by
    unfold leftL
    split
    · rename_i h0
      have h1 := leftV_range r m h0
      have h2 := leftL_range rs (leftV r m) h1.1
      omega
    · omega
end
theorem leftL_neg {l : List Rw} {m : Int} (h : m < 0) : leftL l m = m := by
  cases l with
  | nil => unfold leftL; rfl
  | cons r rs => unfold leftL; rw [if_neg (by omega)]
theorem leftL_drop {l : List Rw} {i : Nat} {m : Int} (hi : i < l.length) (hm : 0 ≤ m) : leftL (l.drop i) m = leftL (l.drop (i + 1)) (leftV l[i] m) := by
  rw [List.drop_eq_getElem_cons hi]
  conv => lhs; unfold leftL
  rw [if_pos hm]

end Go.Proofs.YtfnkmgipjemkdaaDoor

/- The maker's count of a tree's nodes, Few. -/
namespace Go.Proofs.YtfnkmgipjemkdaaDoor
open Go Go.RowKit
set_option linter.unusedVariables false

mutual
theorem Rw.ind {P : Rw → Prop} (h : ∀ k n s l, (∀ r ∈ l, P r) → P (.mk k n s l)) : ∀ r, P r
  | .mk k n s l => h k n s l (Rw.inds h l)
theorem Rw.inds {P : Rw → Prop} (h : ∀ k n s l, (∀ r ∈ l, P r) → P (.mk k n s l)) : ∀ l : List Rw, ∀ r ∈ l, P r
  | [] => fun r hr => by simp at hr
  | x :: xs => fun r hr => by
    rcases List.mem_cons.1 hr with e | e
    · rw [e]; exact Rw.ind h x
    · exact Rw.inds h xs r e
end

def RetI (w : World) (n : Int) (e : Ending) (w' : World) : Prop := e = .returned (.int .i64 n) ∧ Below w.heap.size w w'
/-- Between rounds of the count. -/
def LeftW (W wr : World) (l : List Rw) (i : Nat) (q r : Int) : Prop := leftL (l.drop i) q = r ∧ Below W.heap.size W wr

end Go.Proofs.YtfnkmgipjemkdaaDoor

/- The maker's Few and part. -/
namespace Go.Proofs.YtfnkmgipjemkdaaDoor
open Go Go.RowKit
set_option linter.unusedVariables false

def few (r : Rw) (m : Int) : Bool := decide (0 ≤ leftV r m)
/-- The part of a tree, or the empty one. -/
def partV : Rw → Nat → Rw
  | .mk _ _ _ l, i => l.getD i (.mk 0 0 ⟨#[]⟩ [])
/-- The call returned a tree, over blocks of S. -/
def RetR (w : World) (S : Nat → Prop) (r : Rw) (e : Ending) (w' : World) : Prop := ∃ cs, e = .returned (.agg cs.toArray) ∧ RawAt w' S r cs ∧ Below w.heap.size w w'
theorem raw_none (w : World) (S : Nat → Prop) : RawAt w S (.mk 0 0 ⟨#[]⟩ []) [.int .i64 0, .int .i64 0, .string ⟨#[]⟩, .slice none 0 0] := by
  unfold RawAt
  exact ⟨none, 0, rfl, by unfold I64; omega, by unfold I64; omega, Nat.le_refl _, Nat.zero_le _, fun h => by simp at h⟩
end Go.Proofs.YtfnkmgipjemkdaaDoor
