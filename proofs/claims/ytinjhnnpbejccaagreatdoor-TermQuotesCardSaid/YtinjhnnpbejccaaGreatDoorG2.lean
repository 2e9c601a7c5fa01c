/- Words for memory: a slice that reads as a list of small numbers; what is kept when memory grows. -/
import Derived.Test.YtinjhnnpbejccaaGreatDoorG1
import Derived.Below
import Derived.Laws.OwnMore
import Derived.Laws.Rows
import Derived.Deep.AppendLies
import Derived.Deep.Draws
import Derived.Maps.AppendAt
namespace Go.Proofs.YtinjhnnpbejccaaGreatDoor
open Go Go.RowKit
def dg (xs : List Nat) (j : Nat) : Int := ((xs.getD j 0 : Nat) : Int)
theorem dg_nonneg (xs : List Nat) (j : Nat) : 0 ≤ dg xs j := by unfold dg; omega
theorem dg_lt {xs : List Nat} (h : AllDig xs) (j : Nat) : dg xs j < 10 := by have := h.getD j; unfold dg; omega
def Reads (w : World) (B : Nat) (k : IntKind) (A : Option Addr) (xs : List Nat) : Prop :=
 0 < xs.length → ∃ b o, A = some ⟨b, o, none⟩ ∧ b < B ∧ ∀ j, j < xs.length → w.cell? ⟨b, o + j, none⟩ = some (.int k (dg xs j))

section
variable {w w' : World} {B B' : Nat} {k : IntKind} {A : Option Addr} {xs : List Nat}
theorem Reads.nil_ : Reads w B k A [] := fun h => absurd h (by simp)
theorem Reads.keep (h : Reads w B k A xs) (hk : ∀ p : Addr, p.block < B → w'.cell? p = w.cell? p) : Reads w' B k A xs := fun hn => by
 obtain ⟨b, o, e, hb, hc⟩ := h hn
 exact ⟨b, o, e, hb, fun j hj => (hk ⟨b, o + j, none⟩ hb).trans (hc j hj)⟩
theorem Reads.more (h : Reads w B k A xs) (hB : B ≤ B') : Reads w B' k A xs := fun hn => by
 obtain ⟨b, o, e, hb, hc⟩ := h hn
 exact ⟨b, o, e, by omega, hc⟩
theorem Reads.below (h : Reads w B k A xs) (hb : Below B w w') : Reads w' B k A xs := h.keep fun _ hp => hb.cell hp
theorem Reads.drewN (h : Reads w B k A xs) (n : Nat) : Reads (w.drewN n) B k A xs := h
theorem Reads.alloc (h : Reads w B k A xs) (hB : B ≤ w.heap.size) (o : Obj) : Reads (w.alloc o) B k A xs := h.keep fun p hp => World.cell?_alloc_lt w o p (by omega)
theorem Reads.take (h : Reads w B k A xs) (n : Nat) : Reads w B k A (xs.take n) := fun hn => by
 rw [List.length_take] at hn
 obtain ⟨b, o, e, hb, hc⟩ := h (by omega)
 refine ⟨b, o, e, hb, fun j hj => ?_⟩
 rw [List.length_take] at hj
 rw [hc j (by omega)]
 unfold dg
 simp only [List.getD_eq_getElem?_getD, List.getElem?_take]
 rw [if_pos (by omega)]
end
def rowOf (k : IntKind) (xs : List Nat) : Array Value := (xs.map fun d : Nat => Value.int k (d : Int)).toArray
def Row (w : World) (g : Nat) (e : TypeId) (k : IntKind) (xs : List Nat) : Prop := ∃ cur : Array Value, w.heap[g]? = some (.cells cur e (0, 0)) ∧ ∀ j, j < xs.length → cur[j]? = some (.int k (dg xs j))

section
variable {w w' : World} {g : Nat} {e : TypeId} {k : IntKind} {xs : List Nat}
theorem Row.lt (h : Row w g e k xs) : g < w.heap.size := by
 obtain ⟨cur, h, _⟩ := h
 rcases Nat.lt_or_ge g w.heap.size with hlt | hge
 · exact hlt
 · rw [Array.getElem?_eq_none hge] at h; cases h
theorem rowOf_get (k : IntKind) (xs : List Nat) (j : Nat) (hj : j < xs.length) : (rowOf k xs)[j]? = some (.int k (dg xs j)) := by
 unfold rowOf dg
 simp [List.getElem?_eq_getElem hj]
theorem Row.cell (h : Row w g e k xs) (j : Nat) (hj : j < xs.length) : w.cell? ⟨g, j, none⟩ = some (.int k (dg xs j)) := by
 obtain ⟨cur, h, hc⟩ := h
 rw [cell_of_row w g j _ e (0, 0) h, hc j hj]
theorem Row.frozen (h : Row w g e k xs) (j : Nat) : w.frozen? ⟨g, j, none⟩ = false := by
 obtain ⟨cur, h, hc⟩ := h
 simp [World.frozen?, h]
theorem Row.new (w : World) (e : TypeId) (k : IntKind) (xs : List Nat) : Row (w.alloc (.cells (rowOf k xs) e)) w.heap.size e k xs := ⟨_, heap_alloc_new w _, fun j hj => rowOf_get k xs j hj⟩
theorem Row.drewN (h : Row w g e k xs) (n : Nat) : Row (w.drewN n) g e k xs := h
theorem Row.mem (h : Row w g e k xs) (hb : w'.heap[g]? = w.heap[g]?) : Row w' g e k xs := by
 obtain ⟨cur, h, hc⟩ := h
 exact ⟨cur, hb.trans h, hc⟩
theorem Row.set_ (h : Row w g e k xs) (j : Nat) (d : Nat) (x : Int) (hx : x = (d : Int)) : Row (w.setCell ⟨g, j, none⟩ (.int k x)) g e k (xs.set j d) := by
 subst hx
 obtain ⟨cur, h, hc⟩ := h
 refine ⟨cur.setIfInBounds j (.int k (d : Int)), ?_, ?_⟩
 · simp [World.setCell, Array.getElem?_modify, h]
 · intro i hi
   rw [List.length_set] at hi
   have hci := hc i hi
   have his := (Array.getElem?_eq_some_iff.1 hci).1
   by_cases e : j = i
   · subst e
     rw [Array.getElem?_setIfInBounds_self_of_lt his]
     unfold dg
     rw [List.getD_eq_getElem?_getD, List.getElem?_set_self hi]
     rfl
   · rw [Array.getElem?_setIfInBounds_ne e, hci]
     unfold dg
     rw [List.getD_eq_getElem?_getD, List.getD_eq_getElem?_getD, List.getElem?_set_ne e]
theorem Row.far (h : Row w g e k xs) {p : Addr} (hp : g ≠ p.block) (u : Value) : Row (w.setCell p u) g e k xs := h.mem (Below.heap_setCell w p u g hp)
theorem Row.below {B : Nat} (h : Row w g e k xs) (hb : Below B w w') (hg : g < B) : Row w' g e k xs := h.mem (hb.block g hg)
theorem Row.of_own {base n c : Nat} {A : Option Addr} (h : w.ownsRow base e 1 (.slice A n c) n (xs.map fun d : Nat => Value.int k (d : Int))) (hn : A ≠ none) : ∃ g, A = some ⟨g, 0, none⟩ ∧ base ≤ g ∧ n ≤ c ∧ Row w g e k xs := by
 obtain ⟨h1, h2⟩ := h
 rcases h2 with ⟨h3, h4⟩ | ⟨g, cap, cur, hv, hb, hh, hnc, hcm, hcs, ht⟩
 · injection h3 with h5
   exact absurd h5 hn
 · injection hv with h5 h6 h7
   subst h5 h7
   refine ⟨g, rfl, hb, hnc, cur, hh, fun j hj => ?_⟩
   have e := congrArg (fun l => l[j]?) ht
   simp only [List.getElem?_take, List.getElem?_map] at e
   rw [List.length_map, Nat.mul_one] at h1
   rw [Nat.mul_one, if_pos (by omega), List.getElem?_eq_getElem hj] at e
   rw [← Array.getElem?_toList, e]
   unfold dg
   rw [List.getD_eq_getElem?_getD, List.getElem?_eq_getElem hj]
   rfl
theorem Row.reads {B : Nat} (h : Row w g e k xs) (hg : g < B) : Reads w B k (some ⟨g, 0, none⟩) xs :=
 fun _ => ⟨g, 0, rfl, hg, fun j hj => by rw [Nat.zero_add]; exact h.cell j hj⟩
theorem Row.reads_at {B : Nat} (h : Row w g e k xs) (hg : g < B) (i : Nat) (ys : List Nat) (hy : ∀ j, j < ys.length → i + j < xs.length ∧ dg ys j = dg xs (i + j)) : Reads w B k (some ⟨g, i, none⟩) ys :=
 fun _ => ⟨g, i, rfl, hg, fun j hj => by rw [h.cell _ (hy j hj).1, (hy j hj).2]⟩
end
theorem trim_head {xs : List Nat} (ha : AllDig xs) : ∃ n, n ≤ xs.length ∧ xs.take n = digs (ofD xs) := by
 have key : ∀ k, k ≤ xs.length → (∀ j, k ≤ j → j < xs.length → xs.getD j 0 = 0) → ∃ n, n ≤ xs.length ∧ xs.take n = digs (ofD xs) := by
  intro k
  induction k with
  | zero => intro hk hz; exact ⟨0, Nat.zero_le _, digs_of_take ha 0 (Nat.zero_le _) hz (.inl rfl)⟩
  | succ k ih =>
   intro hk hz
   by_cases h0 : xs.getD k 0 = 0
   · exact ih (by omega) (fun j hj hl => by
      by_cases e : j = k
      · rw [e]; exact h0
      · exact hz j (by omega) hl)
   · exact ⟨k + 1, hk, digs_of_take ha (k + 1) hk hz (.inr (by simpa using h0))⟩
 exact key xs.length (Nat.le_refl _) (fun j h1 h2 => by omega)
theorem Reads.of_digs {w : World} {B : Nat} {k : IntKind} {A : Option Addr} {xs : List Nat} {v : Nat} (h : Reads w B k A xs) (ha : AllDig xs) (hv : ofD xs = v) : Reads w B k A (digs v) := by
 obtain ⟨n, _, e⟩ := trim_head ha
 rw [← hv, ← e]
 exact h.take n
def LenIs (n a : Nat) : Prop := (digs n).length = a
def RetD (k : IntKind) (w : World) (n : Nat) (e : Ending) (w' : World) : Prop :=
 ∃ A c, e = .returned (.slice A (digs n).length c) ∧ (digs n).length ≤ c ∧ Reads w' w'.heap.size k A (digs n) ∧ Below w.heap.size w w'
structure Only (g : Nat) (w w' : World) : Prop where
 os : w'.os = w.os
 tape : w'.tape = w.tape
 output : w'.output = w.output
 size : w'.heap.size = w.heap.size
 block : ∀ k, k ≠ g → w'.heap[k]? = w.heap[k]?
theorem Only.refl (g : Nat) (w : World) : Only g w w := ⟨rfl, rfl, rfl, rfl, fun _ _ => rfl⟩
theorem Only.trans {g : Nat} {a b c : World} (h : Only g a b) (k : Only g b c) : Only g a c := ⟨k.os.trans h.os, k.tape.trans h.tape, k.output.trans h.output, k.size.trans h.size, fun i hi => (k.block i hi).trans (h.block i hi)⟩
theorem Only.setCell {g : Nat} {a w : World} (h : Only g a w) {p : Addr} (hp : p.block = g) (u : Value) : Only g a (w.setCell p u) :=
 h.trans ⟨rfl, rfl, rfl, by simp [World.setCell], fun k hk => Below.heap_setCell _ _ _ _ (by omega)⟩
theorem Only.below {g B : Nat} {a w : World} (h : Only g a w) (hB : B ≤ g) : Below B a w := ⟨h.os, h.tape, h.output, by rw [h.size]; exact Nat.le_refl _, fun k hk => h.block k (by omega)⟩
theorem Row.only {g g' : Nat} {e : TypeId} {k : IntKind} {xs : List Nat} {w w' : World} (h : Row w g e k xs) (ho : Only g' w w') (hg : g ≠ g') : Row w' g e k xs := h.mem (ho.block g hg)
theorem Reads.cells {w : World} {B : Nat} {k : IntKind} {x : Addr} {xs : List Nat} (h : Reads w B k (some x) xs) : ∀ j u, (xs.map fun d : Nat => Value.int k (d : Int))[j]? = some u → w.cell? (x.add j) = some u := by
 intro j u hu
 rw [List.getElem?_map] at hu
 rcases Nat.lt_or_ge j xs.length with hj | hj
 · obtain ⟨b, o, e, hb, hc⟩ := h (by omega)
   injection e with e
   subst e
   rw [Addr.add_lit, hc j hj]
   rw [List.getElem?_eq_getElem hj] at hu
   unfold dg
   rw [List.getD_eq_getElem?_getD, List.getElem?_eq_getElem hj]
   simpa using hu
 · rw [List.getElem?_eq_none hj] at hu
   cases hu
theorem one_cells (k : IntKind) (xs : List Nat) : ∀ u ∈ (xs.map fun d : Nat => Value.int k (d : Int)), u.oneCell' = true := by
 intro u hu
 obtain ⟨_, _, rfl⟩ := List.mem_map.1 hu
 rfl
theorem dr1 (w : World) (a b : Nat) : ∃ z, (w.drewN a).drewN b = w.drewN z := ⟨_, World.drewN_drewN _ _ _⟩
theorem dr2 (w : World) (a b c : Nat) : ∃ z, ((w.drewN a).drewN b).drewN c = w.drewN z := by
 rw [World.drewN_drewN]; exact dr1 _ _ _
theorem below_drewN {B : Nat} {a w : World} (h : Below B a w) (n : Nat) : Below B a (w.drewN n) := ⟨h.os, h.tape, h.output, h.size, h.block⟩
theorem ret_int {k : IntKind} {a b : Int} (h : a = b) : Ending.returned (.int k a) = .returned (.int k b) := by rw [h]
theorem ret_bool {a b : Bool} (h : a = b) : Ending.returned (.bool a) = .returned (.bool b) := by rw [h]
theorem ret_slice {A : Option Addr} {a b c : Nat} (h : a = b) : Ending.returned (.slice A a c) = .returned (.slice A b c) := by rw [h]
theorem ret_string {a b : ByteArray} (h : a = b) : Ending.returned (.string a) = .returned (.string b) := by rw [h]
def BA (l : List UInt8) : ByteArray := ⟨l.toArray⟩
def LA (s : ByteArray) : List UInt8 := s.data.toList
theorem LA_BA (l : List UInt8) : LA (BA l) = l := rfl
theorem BA_LA (s : ByteArray) : BA (LA s) = s := by cases s; simp [BA, LA]
theorem LA_length (s : ByteArray) : (LA s).length = s.size := rfl
theorem BA_size (l : List UInt8) : (BA l).size = l.length := rfl

end Go.Proofs.YtinjhnnpbejccaaGreatDoor
