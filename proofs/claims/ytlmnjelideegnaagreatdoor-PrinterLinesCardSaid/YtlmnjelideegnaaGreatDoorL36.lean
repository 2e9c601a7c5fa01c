import Derived.Test.YtlmnjelideegnaaGreatDoorCl
import Derived.Test.YtlmnjelideegnaaGreatDoorL29
import Derived.BigQuiet
import Derived.Lib.Repeat
import Derived.Test.YtlmnjelideegnaaGreatDoorL27
import Derived.Test.YtlmnjelideegnaaGreatDoorL31
import Derived.Test.YtlmnjelideegnaaGreatDoorL33
import Derived.Test.YtlmnjelideegnaaGreatDoorL28
namespace Go.Proofs.YtlmnjelideegnaaGreatDoor
open Go Go.RowKit
set_option linter.unusedVariables false
set_option maxHeartbeats 32000000
set_option maxRecDepth 100000
/-- The text of an object, with those of the elements that a line can be broken between. -/
inductive Tr where
 | mk (t : List UInt8) (l : List Tr)
def Tr.t : Tr → List UInt8 | .mk t _ => t
def Tr.l : Tr → List Tr | .mk _ l => l
section
variable (nm : List UInt8 → List UInt8 → List UInt8)
mutual
def trO : Ob → Tr
 | .cons a d => .mk (prO nm (.cons a d)) (if isQU a d = true then [] else if prpU d = true then trO a :: trE d else [])
 | .num q => .mk (numS q) []
 | .str s => .mk (escL 34 s) []
 | .sym p m => .mk (nm p m) []
def trE : Ob → List Tr
 | .cons a d => trO a :: trE d
 | _ => []
end
theorem trO_t (o : Ob) : (trO nm o).t = prO nm o := by
 cases o <;> (unfold trO; rfl)
/-- The span is that of the tree in this text. -/
inductive Sg (full : List UInt8) : Spn → Tr → Prop where
 | mk (s e : Nat) (l : List Spn) (t : List UInt8) (r : List Tr) : e = s + t.length → e ≤ full.length → (full.drop s).take t.length = t → l.length = r.length →
  (∀ (i : Nat) (x : Spn) (y : Tr), l[i]? = some x → r[i]? = some y → Sg full x y) → Sg full (.mk s e l) (.mk t r)
theorem seg_app (A t B : List UInt8) : ((A ++ t ++ B).drop A.length).take t.length = t := by
 rw [List.append_assoc, List.drop_left]
 exact List.take_left
theorem spE_trE_len : ∀ (d : Ob) (n : Nat), (spE nm n d).length = (trE nm d).length
 | .cons a d, n => by
  have := spE_trE_len d (n + 1 + (prO nm a).length)
  show (spE nm (n + 1 + (prO nm a).length) d).length + 1 = (trE nm d).length + 1
  omega
 | .num _, _ => rfl
 | .str _, _ => rfl
 | .sym _ _, _ => rfl
mutual
theorem sg_ob (full : List UInt8) : ∀ (o : Ob) (A B : List UInt8), full = A ++ prO nm o ++ B → Sg full (spU nm A.length o) (trO nm o)
 | .num q, A, B, h => by
  have e : spU nm A.length (.num q) = .mk A.length (A.length + (numS q).length) [] := rfl
  rw [e]
  subst h
  exact .mk _ _ _ _ _ rfl (by show _ ≤ (A ++ numS q ++ B).length; simp) (seg_app A (numS q) B) rfl (fun i x y hx => by simp at hx)
 | .str q, A, B, h => by
  have e : spU nm A.length (.str q) = .mk A.length (A.length + (escL 34 q).length) [] := rfl
  rw [e]
  subst h
  exact .mk _ _ _ _ _ rfl (by show _ ≤ (A ++ escL 34 q ++ B).length; simp) (seg_app A (escL 34 q) B) rfl (fun i x y hx => by simp at hx)
 | .sym p m, A, B, h => by
  have e : spU nm A.length (.sym p m) = .mk A.length (A.length + (nm p m).length) [] := rfl
  rw [e]
  subst h
  exact .mk _ _ _ _ _ rfl (by show _ ≤ (A ++ nm p m ++ B).length; simp) (seg_app A (nm p m) B) rfl (fun i x y hx => by simp at hx)
 | .cons a d, A, B, h => by
  have e : spU nm A.length (.cons a d) = .mk A.length (A.length + (prO nm (.cons a d)).length) (if isQU a d = true then [] else if prpU d = true then spU nm (A.length + 1) a :: spE nm (A.length + 1 + (prO nm a).length) d else []) := rfl
  have e2 : trO nm (.cons a d) = .mk (prO nm (.cons a d)) (if isQU a d = true then [] else if prpU d = true then trO nm a :: trE nm d else []) := rfl
  rw [e, e2]
  by_cases hq : isQU a d = true
  · rw [if_pos hq, if_pos hq]
    refine .mk _ _ _ _ _ rfl ?_ ?_ rfl (fun i x y hx => by simp at hx)
    · rw [h]; simp
    · rw [h]; exact seg_app A _ B
  · rw [if_neg hq, if_neg hq]
    by_cases hp : prpU d = true
    · rw [if_pos hp, if_pos hp]
      have e1 : prO nm (.cons a d) = 40 :: (prO nm a ++ prT nm d) := by rw [prO_cons, if_neg hq]
      have ha := sg_ob full a (A ++ [40]) (prT nm d ++ B) (by rw [h, e1]; simp)
      have hd := sg_el full d (A ++ [40] ++ prO nm a) B (by rw [h, e1]; simp)
      have l1 : (A ++ [40]).length = A.length + 1 := by simp
      have l2 : (A ++ [40] ++ prO nm a).length = A.length + 1 + (prO nm a).length := by rw [List.length_append, l1]
      rw [l1] at ha
      rw [l2] at hd
      refine .mk _ _ _ _ _ rfl ?_ ?_ ?_ (fun i x y hx hy => ?_)
      · rw [h]; simp
      · rw [h]; exact seg_app A _ B
      · simp only [List.length_cons]; rw [spE_trE_len]
      · cases i with
        | zero =>
         simp only [List.getElem?_cons_zero, Option.some.injEq] at hx hy
         subst hx hy
         exact ha
        | succ i =>
         simp only [List.getElem?_cons_succ] at hx hy
         exact hd i x y hx hy
    · rw [if_neg hp, if_neg hp]
      refine .mk _ _ _ _ _ rfl ?_ ?_ rfl (fun i x y hx => by simp at hx)
      · rw [h]; simp
      · rw [h]; exact seg_app A _ B
theorem sg_el (full : List UInt8) : ∀ (d : Ob) (A B : List UInt8), full = A ++ prT nm d ++ B → ∀ (i : Nat) (x : Spn) (y : Tr), (spE nm A.length d)[i]? = some x → (trE nm d)[i]? = some y → Sg full x y
 | .cons a d, A, B, h, i, x, y, hx, hy => by
  have e1 : prT nm (.cons a d) = 32 :: (prO nm a ++ prT nm d) := rfl
  have ha := sg_ob full a (A ++ [32]) (prT nm d ++ B) (by rw [h, e1]; simp)
  have hd := sg_el full d (A ++ [32] ++ prO nm a) B (by rw [h, e1]; simp)
  have l1 : (A ++ [32]).length = A.length + 1 := by simp
  have l2 : (A ++ [32] ++ prO nm a).length = A.length + 1 + (prO nm a).length := by rw [List.length_append, l1]
  rw [l1] at ha
  rw [l2] at hd
  have e : spE nm A.length (.cons a d) = spU nm (A.length + 1) a :: spE nm (A.length + 1 + (prO nm a).length) d := by rw [spE]
  have e2 : trE nm (.cons a d) = trO nm a :: trE nm d := by rw [trE]
  rw [e] at hx
  rw [e2] at hy
  cases i with
  | zero =>
   simp only [List.getElem?_cons_zero, Option.some.injEq] at hx hy
   subst hx hy
   exact ha
  | succ i =>
   simp only [List.getElem?_cons_succ] at hx hy
   exact hd i x y hx hy
 | .num _, A, B, h, i, x, y, hx, hy => by simp [spE] at hx
 | .str _, A, B, h, i, x, y, hx, hy => by simp [spE] at hx
 | .sym _ _, A, B, h, i, x, y, hx, hy => by simp [spE] at hx
end
end
/-- The first line of a list opens it, the others are indented. -/
def opn : List (List UInt8) → List (List UInt8)
 | [] => []
 | x :: r => (40 :: x) :: r.map (32 :: ·)
/-- The last line closes the list. -/
def clo : List (List UInt8) → List (List UInt8)
 | [] => []
 | [x] => [x ++ [41]]
 | x :: y :: r => x :: clo (y :: r)
mutual
/-- The lines of a tree. -/
def linT : Int → Tr → List (List UInt8)
 | W, .mk t l => if (t.length : Int) ≤ W ∨ l.length < 2 then [t] else clo (opn (linTs (W - 1) l))
def linTs : Int → List Tr → List (List UInt8)
 | _, [] => []
 | W, x :: r => linT W x ++ linTs W r
end
theorem clo_ne {l : List (List UInt8)} (h : l ≠ []) : clo l ≠ [] := by
 match l, h with
 | [x], _ => simp [clo]
 | x :: y :: r, _ => simp [clo]
theorem opn_ne {l : List (List UInt8)} (h : l ≠ []) : opn l ≠ [] := by
 match l, h with
 | x :: r, _ => simp [opn]
mutual
theorem linT_ne : ∀ (W : Int) (t : Tr), linT W t ≠ []
 | W, .mk t l => by
  unfold linT
  split
  · simp
  · rename_i h
    have : l ≠ [] := by
     intro e
     subst e
     exact h (.inr (by simp))
    exact clo_ne (opn_ne (linTs_ne (W - 1) l this))
theorem linTs_ne : ∀ (W : Int) (l : List Tr), l ≠ [] → linTs W l ≠ []
 | W, [], h => absurd rfl h
 | W, x :: r, _ => by
  unfold linTs
  have := linT_ne W x
  simp [this]
end
/-- What stands ahead of the first line, and as much room ahead of the others. -/
def pre (bf : List UInt8) : List (List UInt8) → List (List UInt8)
 | [] => []
 | x :: r => (bf ++ x) :: r.map (List.replicate bf.length 32 ++ ·)
theorem pre_sp (n : Nat) (l : List (List UInt8)) : pre (List.replicate n 32) l = l.map (List.replicate n 32 ++ ·) := by
 cases l with
 | nil => rfl
 | cons x r => simp [pre]
theorem clo_map (f : List UInt8 → List UInt8) (hf : ∀ x, f (x ++ [41]) = f x ++ [41]) : ∀ l, (clo l).map f = clo (l.map f)
 | [] => rfl
 | [x] => by simp [clo, hf]
 | x :: y :: r => by
  have := clo_map f hf (y :: r)
  simp only [clo, List.map_cons] at this ⊢
  rw [this]
theorem pre_clo (bf : List UInt8) : ∀ l, pre bf (clo l) = clo (pre bf l)
 | [] => rfl
 | [x] => by simp [pre, clo]
 | x :: y :: r => by
  have e : clo (x :: y :: r) = x :: clo (y :: r) := rfl
  have e2 : pre bf (x :: y :: r) = (bf ++ x) :: (y :: r).map (List.replicate bf.length 32 ++ ·) := rfl
  rw [e, e2]
  show (bf ++ x) :: (clo (y :: r)).map _ = _
  rw [clo_map _ (fun x => by simp)]
  rfl
theorem pre_opn (bf x : List UInt8) (r : List (List UInt8)) : pre bf (opn (x :: r)) = (bf ++ [40] ++ x) :: r.map (List.replicate (bf.length + 1) 32 ++ ·) := by
 show (bf ++ 40 :: x) :: (r.map (32 :: ·)).map (List.replicate bf.length 32 ++ ·) = _
 have e : bf ++ 40 :: x = bf ++ [40] ++ x := by simp
 rw [e, List.map_map]
 congr 1
 apply List.map_congr_left
 intro z _
 show List.replicate bf.length 32 ++ 32 :: z = List.replicate (bf.length + 1) 32 ++ z
 rw [List.replicate_succ']
 simp
/-- The lines of the elements, one element after another: the first behind bf, the others indented. -/
def preAll (W : Int) (bf : List UInt8) (k : Nat) : List Tr → List (List UInt8)
 | [] => []
 | x :: r => pre bf (linT W x) ++ (linTs W r).map (List.replicate k 32 ++ ·)
theorem preAll_eq (W : Int) (bf : List UInt8) (l : List Tr) : preAll W (bf ++ [40]) (bf.length + 1) l = pre bf (opn (linTs W l)) := by
 cases l with
 | nil => rfl
 | cons x r =>
  have hx := linT_ne W x
  have e1 : linTs W (x :: r) = linT W x ++ linTs W r := by rw [linTs]
  have e2 : preAll W (bf ++ [40]) (bf.length + 1) (x :: r) = pre (bf ++ [40]) (linT W x) ++ (linTs W r).map (List.replicate (bf.length + 1) 32 ++ ·) := rfl
  rw [e1, e2]
  cases hl : linT W x with
  | nil => exact absurd hl hx
  | cons y ys =>
   rw [List.cons_append, pre_opn, List.map_append]
   have : (bf ++ [40]).length = bf.length + 1 := by simp
   show ((bf ++ [40] ++ y) :: ys.map (List.replicate (bf ++ [40]).length 32 ++ ·)) ++ _ = _
   rw [this]
   rfl
theorem lin_broken {W : Int} {bf t : List UInt8} {l : List Tr} (h : ¬ ((t.length : Int) ≤ W - bf.length ∨ l.length < 2)) : pre bf (linT (W - bf.length) (.mk t l)) = clo (preAll (W - bf.length - 1) (bf ++ [40]) (bf.length + 1) l) := by
 unfold linT
 rw [if_neg h, pre_clo, preAll_eq]
theorem lin_whole {W : Int} {bf t : List UInt8} {l : List Tr} (h : (t.length : Int) ≤ W - bf.length ∨ l.length < 2) : pre bf (linT (W - bf.length) (.mk t l)) = [bf ++ t] := by
 unfold linT
 rw [if_pos h]
 simp [pre]
mutual
/-- A width below nothing is as good as another. -/
theorem linT_neg : ∀ (t : Tr) (W W' : Int), W < 0 → W' < 0 → linT W t = linT W' t
 | .mk t l, W, W', h, h' => by
  unfold linT
  have e1 : ¬ ((t.length : Int) ≤ W) := by omega
  have e2 : ¬ ((t.length : Int) ≤ W') := by omega
  simp only [e1, e2, false_or]
  rw [linTs_neg l (W - 1) (W' - 1) (by omega) (by omega)]
theorem linTs_neg : ∀ (l : List Tr) (W W' : Int), W < 0 → W' < 0 → linTs W l = linTs W' l
 | [], _, _, _, _ => rfl
 | x :: r, W, W', h, h' => by
  unfold linTs
  rw [linT_neg x W W' h h', linTs_neg r W W' h h']
end
theorem linT_max (W : Int) (t : Tr) : linT (max W (-1000)) t = linT W t := by
 by_cases h : W < -1000
 · exact linT_neg t _ _ (by omega) (by omega)
 · rw [show max W (-1000) = W by omega]
def strC (ls : List (List UInt8)) : List Value := ls.map fun x => .string (BA x)
theorem strC_app (a b : List (List UInt8)) : strC (a ++ b) = strC a ++ strC b := by simp [strC]
/-- What was there before stands: all below B, and every block but g that is no row of strings. -/
structure KpS (B g : Nat) (w w' : World) : Prop where
 bel : Below B w w'
 keep : ∀ k, k < w.heap.size → k ≠ g → (∀ cur fr, w.heap[k]? ≠ some (.cells cur 9 fr)) → w'.heap[k]? = w.heap[k]?
theorem KpS.trans {B g : Nat} {a b c : World} (h : KpS B g a b) (h' : KpS B g b c) : KpS B g a c :=
 ⟨h.bel.trans h'.bel, fun k hk hg hn => by
  have e := h.keep k hk hg hn
  exact (h'.keep k (Nat.lt_of_lt_of_le hk h.bel.size) hg (fun cur fr he => hn cur fr (e ▸ he))).trans e⟩
theorem KpS.of {B g : Nat} {a b : World} (h : Below a.heap.size a b) (hB : B ≤ a.heap.size) : KpS B g a b := ⟨h.mono hB, fun k hk _ _ => h.block k hk⟩
theorem noStr {w : World} {b : Nat} {cur : Array Value} (h : w.heap[b]? = some (.cells cur 89 (0, 0))) : ∀ cur' fr, w.heap[b]? ≠ some (.cells cur' 9 fr) := fun cur' fr e => by
 rw [h] at e
 injection e with e
 injection e with _ e _
 exact absurd e (by decide)
theorem SpL.ks {w w' : World} {B g : Nat} {S S' : Nat → Prop} {l : List Spn} {v : Value} (h : SpL w S l v) (hS : ∀ b, S b → S' b) (hg : ∀ b, S b → b ≠ g) (hk : KpS B g w w') : SpL w' S' l v :=
 h.keep hS fun b cur hb hh => hk.keep b (blk_lt hh) (hg b hb) (noStr hh)
/-- The lines so far. -/
structure BrW (w : World) (B g : Nat) (full : List UInt8) (W : Int) (v : Value) (ls : List (List UInt8)) : Prop where
 hB : B ≤ g
 blk : w.heap[g]? = some (.cells #[.string (BA full), .int .i64 W, v] 97 (0, 0))
 own : w.ownsRow (g + 1) 9 1 v ls.length (strC ls)
section
variable {w w' : World} {B g : Nat} {full : List UInt8} {W : Int} {v : Value} {ls : List (List UInt8)}
theorem BrW.lt (h : BrW w B g full W v ls) : g < w.heap.size := blk_lt h.blk
theorem BrW.c (h : BrW w B g full W v ls) : w.cell? ⟨g, 0, none⟩ = some (.string (BA full)) ∧ w.cell? ⟨g, 1, none⟩ = some (.int .i64 W) ∧ w.cell? ⟨g, 2, none⟩ = some v := by
 refine ⟨?_, ?_, ?_⟩ <;> (rw [cell_of_row _ _ _ _ _ _ h.blk]; rfl)
theorem BrW.keep (h : BrW w B g full W v ls) (hb : Below w.heap.size w w') : BrW w' B g full W v ls :=
 ⟨h.hB, (hb.block g h.lt).trans h.blk, own_keep h.own fun k hk => hb.block k (own_lt h.own k hk).2⟩
theorem BrW.shape (h : BrW w B g full W v ls) : ∃ A c, v = .slice A ls.length c := by
 rcases h.own.2 with ⟨rfl, h0⟩ | ⟨r, cap, cur, rfl, _⟩
 · exact ⟨none, 0, by rw [h0]⟩
 · exact ⟨_, _, rfl⟩
theorem BrW.app {w3 w4 : World} {v' : Value} {x : List UInt8} (h : BrW w B g full W v ls) (h3 : Below w.heap.size w w3) (h4 : w4.ownsRow (g + 1) 9 1 v' (ls.length + 1) (strC ls ++ [.string (BA x)])) (hg : w3.grownBy w4 v.ownBlock) :
 (w4.heap[g]? = some (.cells #[.string (BA full), .int .i64 W, v] 97 (0, 0))) ∧ BrW (w4.setCell ⟨g, 2, none⟩ v') B g full W v' (ls ++ [x]) ∧ KpS B g w (w4.setCell ⟨g, 2, none⟩ v') := by
 have hlt := own_lt h.own
 have hgl := h.lt
 have hs3 := h3.size
 have hB := h.hB
 have hgb : w4.heap[g]? = some (.cells #[.string (BA full), .int .i64 W, v] 97 (0, 0)) := ((hg.block g (by omega) (fun e => by have := (hlt g e.symm).1; omega)).trans (h3.block g hgl)).trans h.blk
 refine ⟨hgb, ⟨h.hB, ?_, ?_⟩, ⟨?_, fun k hk hkg hn => ?_⟩⟩
 · simp [World.setCell, Array.getElem?_modify, hgb]
 · rw [List.length_append, strC_app]
   exact own_keep h4 fun k hk => Below.heap_setCell w4 ⟨g, 2, none⟩ _ k (show k ≠ g by have := (own_lt h4 k hk).1; omega)
 · exact (((h3.mono (by omega)).grown hg (by omega) (fun k hk => by have := (hlt k hk).1; omega))).setCell (p := ⟨g, 2, none⟩) (show B ≤ g from hB) v'
 · refine (Below.heap_setCell w4 ⟨g, 2, none⟩ _ k (show k ≠ g from hkg)).trans ((hg.block k (by omega) (fun e => ?_)).trans (h3.block k hk))
   obtain ⟨cur, hh⟩ := own_blk h.own e.symm
   exact hn cur _ hh
end
theorem own_shape {w : World} {B : Nat} {e : TypeId} {size n : Nat} {v : Value} {xs : List Value} (h : w.ownsRow B e size v n xs) : ∃ A k c, v = .slice A k c := by
 rcases h.2 with ⟨rfl, _⟩ | ⟨r, cap, cur, rfl, _⟩
 · exact ⟨none, 0, 0, rfl⟩
 · exact ⟨_, _, _, rfl⟩
theorem infoSt : ∃ i, Tryz.prog.info? 9 = some i ∧ i.zero = some (.string ⟨#[]⟩) ∧ i.size = 1 ∧ i.bytes = 16 := info_of (P := Tryz.prog) (t := 9) (z := .string ⟨#[]⟩) (a := 1) (b := 16) (by kernel_rfl)
theorem ext_seg {full t : List UInt8} {s e : Nat} (he : e = s + t.length) (hseg : (full.drop s).take t.length = t) : (BA full).extract s e = BA t := by
 have h := la_ext (BA full) s e
 have e2 : e - s = t.length := by omega
 rw [LA_BA, e2, hseg] at h
 have h2 : LA ((BA full).extract s e) = t := h
 rw [← h2, BA_LA]
/-- A span's box. -/
theorem SpB.newU (w : World) (x y z : Value) : SpB (w.alloc (.cells #[x, y, z] 89)) w.heap.size x y z := heap_alloc_new _ _
theorem addWhole (w : World) (B g : Nat) (full : List UInt8) (W : Int) (v : Value) (ls : List (List UInt8)) (h : BrW w B g full W v ls) (s e : Nat) (A : Option Addr) (n c : Nat) (bf t : List UInt8) (he : e = s + t.length) (hle : e ≤ full.length) (hseg : (full.drop s).take t.length = t)
 (hcase : (t.length : Int) ≤ W - bf.length ∨ n < 2) (hfull : full.length ≤ 100000000) (hbf : bf.length ≤ 1000000) (hls : ls.length ≤ 1000000) (hn : n ≤ 1000000) :
 Calls Tryz.prog 55 #[.pointer (some ⟨g, 0, none⟩), .agg #[.int .i64 (s : Int), .int .i64 (e : Int), .slice A n c], .string (BA bf)] w (fun r w' => r = .returned (.tuple #[]) ∧ (∃ v', BrW w' B g full W v' (ls ++ [bf ++ t])) ∧ KpS B g w w') := by
 have hx := ext_seg he hseg
 have zb : (BA bf).size = bf.length := BA_size bf
 have zt : (BA t).size = t.length := BA_size t
 have zf : (BA full).size = full.length := BA_size full
 have hcat : BA bf ++ BA t = BA (bf ++ t) := (BA_app3 bf t).symm
 have ht8 : t.length ≤ 100000000 := by omega
 have H := qh9 h
 have hg := h.lt
 have S0 := qh9 (SpB.newU w (.int .i64 (s : Int)) (.int .i64 (e : Int)) (.slice A n c))
 have HW := qh9 (below_al w (.cells #[.int .i64 (s : Int), .int .i64 (e : Int), .slice A n c] 89))
 have HE := qh9 he
 have k1 : (0 : Int) ≤ (s : Int) := by omega
 have k2 : (s : Int) ≤ (e : Int) := by omega
 have k3 : (e : Int) ≤ ((BA full).size : Int) := by rw [zf]; omega
 have HCAT := qh9 hcat
 have HX := qh9 hx
 obtain ⟨i0, hi0, hz0, hz1, hz2⟩ := infoSt
 have HI0 := qh9 hi0
 have HZ0 := qh9 hz0
 have HZ1 := qh9 hz1
 have HZ2 := qh9 hz2
 clear hi0 hz0 hz1 hz2 hcat hx h hseg he
 go_enter Tryz.func55, Tryz.ntmps55
 go_upto_region 1 with fail
 generalize w.alloc (.cells #[.int .i64 (s : Int), .int .i64 (e : Int), .slice A n c] 89) = W1 at S0 HW ⊢
 have H1 := qh9 (H.out.keep HW.out)
 obtain ⟨b0, b1, b2⟩ := H1.out.c
 obtain ⟨s0, s1, s2⟩ := S0.out.c
 go_wp2_with fail
 go_quiet (fail)
 rw [HX.out]
 have hq := belDN W1 nq
 replace H1 := qh9 (H1.out.keep hq)
 replace S0 := qh9 (S0.out.keep hq)
 replace HW := qc9 HW hq
 clear b0 b1 b2 s0 s1 s2 hq k1 k2 k3 HX
 generalize W1.drewN nq = W2 at H1 S0 HW ⊢
 obtain ⟨A', c', rfl⟩ := H1.out.shape
 have H2 := qh9 H1.out
 obtain ⟨b0, b1, b2⟩ := H1.out.c
 obtain ⟨s0, s1, s2⟩ := S0.out.c
 have HLL : Hid (strC (ls ++ [bf ++ t]) = strC ls ++ [.string (BA (bf ++ t))]) := strC_app ls [bf ++ t]
 have hcat := HCAT.out
 have HLN := qh9 zb
 obtain ⟨N, hN⟩ : ∃ N, ls.length = N := ⟨_, rfl⟩
 have HN := qh9 hN
 have own3 := qh9 (H1.out.keep (below_al W2 (.cells #[.string (BA bf ++ BA t)] 9))).own
 have HAP : Hid (∀ v' w4, w4.ownsRow (g + 1) 9 1 v' (N + 1) (strC ls ++ [.string (BA bf ++ BA t)]) → (W2.alloc (.cells #[.string (BA bf ++ BA t)] 9)).grownBy w4 (Value.slice A' ls.length c').ownBlock → _ ∧ _ ∧ _) := fun v' w4 h4 hg4 => H1.out.app (v' := v') (w4 := w4) (x := bf ++ t) (below_al W2 (.cells #[.string (BA bf ++ BA t)] 9)) (by rw [hN, ← hcat]; exact h4) hg4
 have HNEWS : Hid (∀ j u, [Value.string (BA bf ++ BA t)][j]? = some u → (W2.alloc (.cells #[.string (BA bf ++ BA t)] 9)).cell? ((⟨W2.heap.size, 0, none⟩ : Addr).add j) = some u) := cell_one_new _ _ _
 have HONE : Hid (∀ u ∈ [Value.string (BA bf ++ BA t)], u.oneCell' = true) := fun u hu => by
  rw [List.mem_singleton] at hu
  subst hu
  rfl
 have hs3 : g + 1 ≤ (W2.alloc (.cells #[.string (BA bf ++ BA t)] 9)).heap.size := by
  have := H1.out.lt
  simp only [World.size_alloc]
  omega
 rw [hN] at own3 HAP b2 hls
 have zc : (BA bf).size + (BA t).size ≤ 200000000 := by omega
 have hcs : ((BA bf).size : Int) + ((BA t).size : Int) ≤ W ∨ n < 2 := by rw [zb, zt]; omega
 clear hcat HCAT hN hcase zf hle HE
 generalize BA bf = sb at *
 generalize BA t = st at *
 by_cases hc : (sb.size : Int) + (st.size : Int) ≤ W
 all_goals
  first
   | skip
  first
   | (have hn2 : ¬ (sb.size : Int) + (st.size : Int) ≤ W := hc
      have hn3 : (n : Int) < 2 := by omega)
   | skip
  go_wp2_with (at_builtin; refine wpList_append_own_at _ rfl (.tmp 39) (.tmp 43) _ rfl (g + 1) 9 i0 _ 1 16 Tryz.underlying42 HI0.out HZ0.out HZ1.out HZ2.out rfl (by omega) (.slice A' N c') N (strC ls) rfl own3.out ⟨W2.heap.size, 0, none⟩ 1 1 [.string (sb ++ st)] rfl rfl HNEWS.out HONE.out (by simp only [maxLen]; omega) (by omega) hs3 ?_; intro v4 w4 hown4 hg4 hnil4 hat4; have hap := HAP.out v4 w4 hown4 hg4; have hgb := hap.1; have HF := qh9 hap.2; have f2 : w4.frozen? ⟨g, 2, none⟩ = false := (by simp [World.frozen?, hgb]); have d2 : w4.cell? ⟨g, 2, none⟩ = some (.slice A' N c') := (by rw [cell_of_row _ _ _ _ _ _ hgb]; rfl); obtain ⟨A4, n4, c4, rfl⟩ := own_shape hown4; clear hap hgb hown4 hg4 hnil4 hat4)
  refine bodyPost_ret (results_none rfl _ _ _) rfl ?_
  exact ⟨rfl, ⟨_, HF.out.1⟩, (KpS.of HW.out (by have := H.out.hB; omega)).trans HF.out.2⟩
mutual
def szT : Tr → Nat | .mk _ l => 1 + szTs l
def szTs : List Tr → Nat
 | [] => 0
 | x :: r => szT x + szTs r
end
theorem szT_pos (t : Tr) : 1 ≤ szT t := by
 cases t
 unfold szT
 omega
theorem szTs_len : ∀ l : List Tr, l.length ≤ szTs l
 | [] => Nat.zero_le _
 | x :: r => by
  have := szTs_len r
  have := szT_pos x
  unfold szTs
  simp only [List.length_cons]
  omega
theorem szTs_app : ∀ a b : List Tr, szTs (a ++ b) = szTs a + szTs b
 | [], b => by simp [szTs]
 | x :: r, b => by
  have := szTs_app r b
  rw [List.cons_append]
  rw [show szTs (x :: (r ++ b)) = szT x + szTs (r ++ b) by rw [szTs], show szTs (x :: r) = szT x + szTs r by rw [szTs]]
  omega
theorem szTs_take (l : List Tr) (i : Nat) : szTs (l.take i) + szTs (l.drop i) = szTs l := by
 rw [← szTs_app, List.take_append_drop]
theorem szTs_get {l : List Tr} {i : Nat} {x : Tr} (h : l[i]? = some x) : szTs (l.take i) + szT x ≤ szTs l := by
 have h1 := szTs_take l i
 obtain ⟨hi, rfl⟩ := List.getElem?_eq_some_iff.1 h
 rw [List.drop_eq_getElem_cons hi] at h1
 have e : szTs (l[i] :: l.drop (i + 1)) = szT l[i] + szTs (l.drop (i + 1)) := by rw [szTs]
 omega
theorem clo_len : ∀ l : List (List UInt8), (clo l).length = l.length
 | [] => rfl
 | [x] => rfl
 | x :: y :: r => by
  have := clo_len (y :: r)
  simp only [clo, List.length_cons] at this ⊢
  omega
theorem opn_len (l : List (List UInt8)) : (opn l).length = l.length := by
 cases l <;> simp [opn]
theorem pre_len (bf : List UInt8) (l : List (List UInt8)) : (pre bf l).length = l.length := by
 cases l <;> simp [pre]
mutual
theorem linT_len : ∀ (W : Int) (t : Tr), (linT W t).length ≤ szT t
 | W, .mk t l => by
  unfold linT szT
  split
  · simp
  · rw [clo_len, opn_len]
    have := linTs_len (W - 1) l
    omega
theorem linTs_len : ∀ (W : Int) (l : List Tr), (linTs W l).length ≤ szTs l
 | W, [] => by simp [linTs]
 | W, x :: r => by
  unfold linTs szTs
  have := linT_len W x
  have := linTs_len W r
  rw [List.length_append]
  omega
end
theorem Sg.els {full : List UInt8} {s e : Nat} {m : List Spn} {t : List UInt8} {l : List Tr} (h : Sg full (.mk s e m) (.mk t l)) : ∀ y ∈ l, ∃ sp, Sg full sp y := by
 cases h with
 | mk _ _ _ _ _ _ _ _ hl hs =>
  intro y hy
  obtain ⟨i, hi, rfl⟩ := List.getElem_of_mem hy
  exact ⟨_, hs i _ _ (List.getElem?_eq_getElem (by omega)) (List.getElem?_eq_getElem hi)⟩
theorem Sg.tle {full : List UInt8} {sp : Spn} {t : List UInt8} {l : List Tr} (h : Sg full sp (.mk t l)) : t.length ≤ full.length := by
 cases h with
 | mk _ _ _ _ _ he hle _ _ _ => omega
theorem clo_bd {n : Nat} : ∀ l : List (List UInt8), (∀ x ∈ l, x.length ≤ n) → ∀ x ∈ clo l, x.length ≤ n + 1
 | [], h, x, hx => by simp [clo] at hx
 | [y], h, x, hx => by
  have := h y (by simp)
  simp only [clo, List.mem_singleton] at hx
  subst hx
  simp only [List.length_append, List.length_cons, List.length_nil]
  omega
 | y :: z :: r, h, x, hx => by
  simp only [clo, List.mem_cons] at hx
  rcases hx with rfl | hx
  · have := h x (by simp)
    omega
  · exact clo_bd (z :: r) (fun x hx => h x (List.mem_cons_of_mem _ hx)) x hx
theorem opn_bd {n : Nat} (l : List (List UInt8)) (h : ∀ x ∈ l, x.length ≤ n) : ∀ x ∈ opn l, x.length ≤ n + 1 := by
 cases l with
 | nil => intro x hx; simp [opn] at hx
 | cons y r =>
  intro x hx
  simp only [opn, List.mem_cons, List.mem_map] at hx
  rcases hx with rfl | ⟨z, hz, rfl⟩
  · have := h y (by simp)
    simpa using this
  · have := h z (List.mem_cons_of_mem _ hz)
    simpa using this
mutual
theorem linT_bd (full : List UInt8) : ∀ (W : Int) (t : Tr) (sp : Spn), Sg full sp t → ∀ x ∈ linT W t, x.length ≤ full.length + 2 * szT t
 | W, .mk t l, .mk s e m, h, x, hx => by
  unfold linT at hx
  have e0 : szT (.mk t l) = 1 + szTs l := by rw [szT]
  rw [e0]
  split at hx
  · rw [List.mem_singleton] at hx
    subst hx
    have := h.tle
    omega
  · have := clo_bd _ (opn_bd _ (linTs_bd full (W - 1) l h.els)) x hx
    omega
theorem linTs_bd (full : List UInt8) : ∀ (W : Int) (l : List Tr), (∀ y ∈ l, ∃ sp, Sg full sp y) → ∀ x ∈ linTs W l, x.length ≤ full.length + 2 * szTs l
 | W, [], h, x, hx => by simp [linTs] at hx
 | W, y :: r, h, x, hx => by
  rw [show linTs W (y :: r) = linT W y ++ linTs W r by rw [linTs], List.mem_append] at hx
  have e0 : szTs (y :: r) = szT y + szTs r := by rw [szTs]
  rw [e0]
  rcases hx with hx | hx
  · obtain ⟨sp, hsp⟩ := h y (by simp)
    have := linT_bd full W y sp hsp x hx
    omega
  · have := linTs_bd full W r (fun y hy => h y (List.mem_cons_of_mem _ hy)) x hx
    omega
end
theorem preAll_bd (full : List UInt8) (W : Int) (bf : List UInt8) (k : Nat) (l : List Tr) (hk : bf.length ≤ k) (h : ∀ y ∈ l, ∃ sp, Sg full sp y) : ∀ x ∈ preAll W bf k l, x.length ≤ k + full.length + 2 * szTs l := by
 cases l with
 | nil => intro x hx; simp [preAll] at hx
 | cons y r =>
  intro x hx
  have hh := linTs_bd full W (y :: r) h
  rw [show linTs W (y :: r) = linT W y ++ linTs W r by rw [linTs]] at hh
  simp only [preAll, List.mem_append, List.mem_map] at hx
  rcases hx with hx | ⟨z, hz, rfl⟩
  · cases hl : linT W y with
    | nil => rw [hl] at hx; simp [pre] at hx
    | cons a b =>
     rw [hl] at hx
     simp only [pre, List.mem_cons, List.mem_map] at hx
     rcases hx with rfl | ⟨z, hz, rfl⟩
     · have := hh a (by rw [hl]; simp)
       rw [List.length_append]
       omega
     · have := hh z (by rw [hl]; simp [hz])
       rw [List.length_append, List.length_replicate]
       omega
  · have := hh z (by simp [hz])
    rw [List.length_append, List.length_replicate]
    omega
theorem preAll_len (W : Int) (bf : List UInt8) (k : Nat) (l : List Tr) : (preAll W bf k l).length ≤ szTs l := by
 cases l with
 | nil => simp [preAll]
 | cons x r =>
  have := linT_len W x
  have := linTs_len W r
  show (pre bf (linT W x) ++ (linTs W r).map _).length ≤ _
  unfold szTs
  rw [List.length_append, pre_len, List.length_map]
  omega
theorem linTs_app (W : Int) : ∀ a b : List Tr, linTs W (a ++ b) = linTs W a ++ linTs W b
 | [], b => by simp [linTs]
 | x :: r, b => by
  have := linTs_app W r b
  rw [List.cons_append, show linTs W (x :: (r ++ b)) = linT W x ++ linTs W (r ++ b) by rw [linTs], show linTs W (x :: r) = linT W x ++ linTs W r by rw [linTs], this, List.append_assoc]
theorem preAll_snoc (W : Int) (bf : List UInt8) (k : Nat) (r : List Tr) (x : Tr) : preAll W bf k (r ++ [x]) = preAll W bf k r ++ pre (if r.length = 0 then bf else List.replicate k 32) (linT W x) := by
 cases r with
 | nil => simp [preAll, linTs]
 | cons y r =>
  rw [if_neg (by simp), pre_sp]
  show pre bf (linT W y) ++ (linTs W (r ++ [x])).map _ = (pre bf (linT W y) ++ (linTs W r).map _) ++ _
  rw [linTs_app, List.map_append, List.append_assoc]
  simp [linTs]
theorem preAll_take {W : Int} {bf : List UInt8} {k : Nat} {l : List Tr} {i : Nat} {x : Tr} (h : l[i]? = some x) : preAll W bf k (l.take (i + 1)) = preAll W bf k (l.take i) ++ pre (if i = 0 then bf else List.replicate k 32) (linT W x) := by
 obtain ⟨hi, rfl⟩ := List.getElem?_eq_some_iff.1 h
 rw [List.take_succ_eq_append_getElem hi, preAll_snoc]
 have e : (l.take i).length = i := by rw [List.length_take]; omega
 rw [e]
theorem preAll_ne {W : Int} {bf : List UInt8} {k : Nat} {l : List Tr} (h : l ≠ []) : preAll W bf k l ≠ [] := by
 cases l with
 | nil => exact absurd rfl h
 | cons x r =>
  have := linT_ne W x
  show pre bf (linT W x) ++ _ ≠ []
  cases hl : linT W x with
  | nil => exact absurd hl this
  | cons a b => simp [pre]
theorem clo_last : ∀ l : List (List UInt8), l ≠ [] → ∃ A y, l = A ++ [y] ∧ clo l = A ++ [y ++ [41]]
 | [], h => absurd rfl h
 | [x], _ => ⟨[], x, rfl, rfl⟩
 | x :: y :: r, _ => by
  obtain ⟨A, z, e1, e2⟩ := clo_last (y :: r) (by simp)
  refine ⟨x :: A, z, by rw [e1]; rfl, ?_⟩
  show x :: clo (y :: r) = _
  rw [e2]
  rfl
theorem BrW.last {w : World} {B g : Nat} {full : List UInt8} {W : Int} {v : Value} {L : List (List UInt8)} {y : List UInt8} (h : BrW w B g full W v (L ++ [y])) : ∃ r c, v = .slice (some ⟨r, 0, none⟩) (L.length + 1) c ∧ c ≤ maxLen ∧ w.cell? ⟨r, L.length, none⟩ = some (.string (BA y)) ∧ r ≠ g ∧ r < w.heap.size ∧ w.frozen? ⟨r, L.length, none⟩ = false ∧
 ∀ (w1 : World), Below w.heap.size w w1 → ∀ y', BrW (w1.setCell ⟨r, L.length, none⟩ (.string (BA y'))) B g full W v (L ++ [y']) ∧ KpS B g w (w1.setCell ⟨r, L.length, none⟩ (.string (BA y'))) := by
 have hl : (L ++ [y]).length = L.length + 1 := by simp
 have ho := h.own
 rw [hl] at ho
 obtain ⟨b, c, rfl, h1, h2, h3, h4, h5⟩ := own_cells ho (by omega)
 have hi : (strC (L ++ [y]))[L.length]? = some (.string (BA y)) := by simp [strC]
 refine ⟨b, c, rfl, h2, h5 _ _ hi, by omega, h4, ?_, fun w1 hb y' => ?_⟩
 · obtain ⟨cur, hh⟩ := own_blk ho (g := b) rfl
   simp [World.frozen?, hh]
 · have H1 := h.keep hb
   have ho1 := H1.own
   rw [hl] at ho1
   refine ⟨⟨h.hB, ?_, ?_⟩, ⟨((hb.mono (by have := h.hB; omega)).setCell (p := ⟨b, L.length, none⟩) (show B ≤ b by have := h.hB; omega) _), fun k hk hg hn => ?_⟩⟩
   · exact (Below.heap_setCell w1 ⟨b, L.length, none⟩ _ g (show g ≠ b by omega)).trans H1.blk
   · obtain ⟨hlen, hz | ⟨g', cap, cur, e, hbg, hh, hnc, hm, hcs, hcur⟩⟩ := ho1
     · exact absurd hz.1 (by simp)
     · injection e with e1 e2 e3
       injection e1 with e1
       injection e1 with e1
       subst e1 e3
       have hl' : (L ++ [y']).length = L.length + 1 := by simp
       rw [hl']
       refine ⟨by simp [strC], .inr ⟨b, c, cur.set! L.length (.string (BA y')), rfl, hbg, ?_, hnc, hm, by simpa using hcs, ?_⟩⟩
       · simp [World.setCell, Array.getElem?_modify, hh]
       · have hlt : L.length < cur.size := by omega
         rw [Nat.mul_one] at hcur ⊢
         simp only [Array.set!_eq_setIfInBounds, Array.toList_setIfInBounds]
         rw [List.take_set, hcur]
         simp [strC]
   · exact (Below.heap_setCell w1 ⟨b, L.length, none⟩ _ k (fun e => by
      obtain ⟨cur, hh⟩ := own_blk ho (g := b) rfl
      subst e
      exact hn cur _ hh)).trans (hb.block k hk)
/-- What add does to a tree of at most k parts. -/
def AddC (k : Nat) : Prop := ∀ (tr : Tr) (s e : Nat) (m : List Spn) (w : World) (B g : Nat) (full : List UInt8) (W : Int) (v x : Value) (ls : List (List UInt8)) (bf : List UInt8) (S : Nat → Prop), szT tr ≤ k → Sg full (.mk s e m) tr → BrW w B g full W v ls → SpL w S m x → (∀ b, S b → b ≠ g) →
 full.length ≤ 100000000 → bf.length + szT tr ≤ 1000000 → ls.length + szT tr ≤ 1000000 →
 Calls Tryz.prog 55 #[.pointer (some ⟨g, 0, none⟩), .agg #[.int .i64 (s : Int), .int .i64 (e : Int), x], .string (BA bf)] w (fun r w' => r = .returned (.tuple #[]) ∧ (∃ v', BrW w' B g full W v' (ls ++ pre bf (linT (W - bf.length) tr))) ∧ KpS B g w w')
theorem AddC.go {k : Nat} (h : AddC k) {tr : Tr} {s e : Nat} {m : List Spn} {w : World} {B g : Nat} {full : List UInt8} {W : Int} {v x : Value} {ls : List (List UInt8)} {bf : List UInt8} {S : Nat → Prop} (h1 : szT tr ≤ k) (h2 : Sg full (.mk s e m) tr) (h3 : BrW w B g full W v ls) (h4 : SpL w S m x) (h5 : ∀ b, S b → b ≠ g)
 (h6 : full.length ≤ 100000000) (h7 : bf.length + szT tr ≤ 1000000) (h8 : ls.length + szT tr ≤ 1000000) :
 Calls Tryz.prog 55 #[.pointer (some ⟨g, 0, none⟩), .agg #[.int .i64 (s : Int), .int .i64 (e : Int), x], .string (BA bf)] w (fun r w' => r = .returned (.tuple #[]) ∧ (∃ v', BrW w' B g full W v' (ls ++ pre bf (linT (W - bf.length) tr))) ∧ KpS B g w w') :=
 h tr s e m w B g full W v x ls bf S h1 h2 h3 h4 h5 h6 h7 h8
theorem rep_sp (k : Nat) (w : World) (hk : k ≤ 1000001) : Calls Tryz.prog 89 #[.string ⟨#[32]⟩, .int .i64 (k : Int)] w fun e w' => e = .returned (.string (BA (List.replicate k 32))) ∧ Below w.heap.size w w' := by
 refine (Tryz.strings_Repeat ⟨#[32]⟩ k w (by omega) (show 1 * k ≤ _ by omega)).mono ?_
 rintro e w' ⟨rfl, hb⟩
 refine ⟨?_, hb⟩
 have : Lib.repeatL (List.replicate 1 (32 : UInt8)) k = List.replicate (k * 1) 32 := Lib.repeatL_replicate 32 1 k
 rw [Nat.mul_one] at this
 show Ending.returned (.string ⟨(Lib.repeatL (List.replicate 1 (32 : UInt8)) k).toArray⟩) = _
 rw [this]
 rfl
theorem SpL.at' {w : World} {S : Nat → Prop} {m : List Spn} {v : Value} (h : SpL w S m v) : ∀ b n c, v = .slice (some ⟨b, 0, none⟩) n c → S b ∧ b < w.heap.size ∧ ∀ (i s e : Nat) (m' : List Spn), m[i]? = some (.mk s e m') → ∃ x, w.cell? ⟨b, i * 3, none⟩ = some (.int .i64 (s : Int)) ∧ w.cell? ⟨b, i * 3 + 1, none⟩ = some (.int .i64 (e : Int)) ∧ w.cell? ⟨b, i * 3 + 2, none⟩ = some x ∧ SpL w S m' x := by
 cases h with
 | nil => intro b n c e; injection e with e; cases e
 | row l b' c' cur x h0 hc hb hh hcell hsub =>
  intro b n c e
  injection e with e1 e2 e3
  injection e1 with e1
  injection e1 with e1
  subst e1
  refine ⟨hb, blk_lt hh, fun i s e m' hi => ?_⟩
  obtain ⟨h1, h2, h3⟩ := hcell i s e m' hi
  refine ⟨x i, ?_, ?_, ?_, hsub i s e m' hi⟩ <;> (rw [cell_of_row _ _ _ _ _ _ hh]; assumption)
theorem addBroken (k : Nat) (IH : AddC k) (t : List UInt8) (l : List Tr) (s e : Nat) (m : List Spn) (w : World) (B g : Nat) (full : List UInt8) (W : Int) (v : Value) (ls : List (List UInt8)) (bf : List UInt8) (S : Nat → Prop)
 (hk : szTs l ≤ k) (hels : ∀ y ∈ l, ∃ sp, Sg full sp y) (he : e = s + t.length) (hle : e ≤ full.length) (hseg : (full.drop s).take t.length = t) (hml : m.length = l.length) (hsub : ∀ (i : Nat) (x : Spn) (y : Tr), m[i]? = some x → l[i]? = some y → Sg full x y)
 (hbr : BrW w B g full W v ls) (b c : Nat) (hrow : SpL w S m (.slice (some ⟨b, 0, none⟩) m.length c)) (hS : ∀ b, S b → b ≠ g) (hcase : ¬ ((t.length : Int) ≤ W - bf.length ∨ m.length < 2))
 (hfull : full.length ≤ 100000000) (hbf : bf.length + 1 + szTs l ≤ 1000000) (hls : ls.length + szTs l ≤ 1000000) :
 Calls Tryz.prog 55 #[.pointer (some ⟨g, 0, none⟩), .agg #[.int .i64 (s : Int), .int .i64 (e : Int), .slice (some ⟨b, 0, none⟩) m.length c], .string (BA bf)] w (fun r w' => r = .returned (.tuple #[]) ∧ (∃ v', BrW w' B g full W v' (ls ++ clo (preAll (W - bf.length - 1) (bf ++ [40]) (bf.length + 1) l))) ∧ KpS B g w w') := by
 have hx := ext_seg he hseg
 have zb : (BA bf).size = bf.length := BA_size bf
 have zt : (BA t).size = t.length := BA_size t
 have zf : (BA full).size = full.length := BA_size full
 have ht8 : t.length ≤ 100000000 := by omega
 have hll := szTs_len l
 have H := qh9 hbr
 have hg := hbr.lt
 obtain ⟨n, hn⟩ : ∃ n, m.length = n := ⟨_, rfl⟩
 have hn2 : 2 ≤ n := by omega
 have hnl : l.length = n := by omega
 have hnB : n ≤ 1000000 := by omega
 have hR := qh9 hrow
 rw [hn] at hR ⊢
 have HN := qh9 hn
 have HNL := qh9 hnl
 have S0 := qh9 (SpB.newU w (.int .i64 (s : Int)) (.int .i64 (e : Int)) (.slice (some ⟨b, 0, none⟩) n c))
 have HW := qh9 (below_al w (.cells #[.int .i64 (s : Int), .int .i64 (e : Int), .slice (some ⟨b, 0, none⟩) n c] 89))
 have k1 : (0 : Int) ≤ (s : Int) := by omega
 have k2 : (s : Int) ≤ (e : Int) := by omega
 have k3 : (e : Int) ≤ ((BA full).size : Int) := by rw [zf]; omega
 have HX := qh9 hx
 have hW : ¬ (bf.length : Int) + (t.length : Int) ≤ W := by omega
 have hn3 : ¬ (n : Int) < 2 := by omega
 have HSUB := qh9 hsub
 have HIH := qh9 IH
 have HBD := qh9 (preAll_bd full (W - bf.length - 1) (bf ++ [40]) (bf.length + 1) l (by simp) hels)
 have HS := qh9 hS
 clear hx hbr hseg he hcase hsub hels IH hS hn hnl hrow hml
 go_enter Tryz.func55, Tryz.ntmps55
 go_upto_region 1 with fail
 generalize w.alloc (.cells #[.int .i64 (s : Int), .int .i64 (e : Int), .slice (some ⟨b, 0, none⟩) n c] 89) = W1 at S0 HW ⊢
 have H1 := qh9 (H.out.keep HW.out)
 obtain ⟨b0, b1, b2⟩ := H1.out.c
 obtain ⟨s0, s1, s2⟩ := S0.out.c
 go_wp2_with fail
 go_quiet (fail)
 rw [HX.out]
 have hq := belDN W1 nq
 replace H1 := qh9 (H1.out.keep hq)
 replace S0 := qh9 (S0.out.keep hq)
 replace HW := qc9 HW hq
 clear b0 b1 b2 s0 s1 s2 hq k1 k2 k3 HX
 generalize W1.drewN nq = W2 at H1 S0 HW ⊢
 obtain ⟨b0, b1, b2⟩ := H1.out.c
 obtain ⟨s0, s1, s2⟩ := S0.out.c
 have hb40 : (BA bf).size + 1 ≤ maxLen := by rw [zb]; unfold maxLen; omega
 generalize BA t = st at *
 have RP : Hid (Calls Tryz.prog 89 #[.string ⟨#[32]⟩, .int .i64 ((bf.length : Int) + 1)] W2 fun e w' => e = .returned (.string (BA (List.replicate (bf.length + 1) 32))) ∧ Below W2.heap.size W2 w') := by
  have := rep_sp (bf.length + 1) W2 (by omega)
  rwa [show ((bf.length + 1 : Nat) : Int) = (bf.length : Int) + 1 by omega] at this
 have HC40 : Hid (BA bf ++ ⟨#[40]⟩ = BA (bf ++ [40])) := (BA_app3 bf [40]).symm
 go_wp2_with fail
 refine RP.out.mono ?_
 rintro e3 w3 ⟨rfl, hb3⟩
 replace H1 := qh9 (H1.out.keep hb3)
 replace S0 := qh9 (S0.out.keep hb3)
 replace HW := qc9 HW hb3
 clear b0 b1 b2 s0 s1 s2 hb3 RP
 obtain ⟨s0, s1, s2⟩ := S0.out.c
 go_upto_region 6 with fail
 rw [HC40.out]
 go_wp2_with fail
 have HK0 : Hid (KpS B g w w3) := KpS.of HW.out (by have := H.out.hB; omega)
 clear s0 s1 s2 S0 HC40 hb40 zb
 go_loopw [2, 56] (fun bv iv wr => ∃ (i : Nat) (vv : Value), i ≤ n ∧ iv = .int .i64 (i : Int) ∧ bv = .string (BA (if i = 0 then bf ++ [40] else List.replicate (bf.length + 1) 32)) ∧ Hid (BrW wr B g full W vv (ls ++ preAll (W - bf.length - 1) (bf ++ [40]) (bf.length + 1) (l.take i))) ∧ Hid (KpS B g w wr)) (fun _ iv _ => n - (intOf iv).toNat)
 case atStart => exact ⟨0, v, Nat.zero_le _, rfl, rfl, qh9 (by rw [List.take_zero]; show BrW w3 B g full W v (ls ++ []); rw [List.append_nil]; exact H1.out), HK0⟩
 case round =>
  clear HK0 H1 HW
  obtain ⟨i, vv, hi, rfl, rfl, HB, HK⟩ := hrel
  by_cases hik : i < n
  · have hik2 : (i : Int) < (n : Int) := by omega
    obtain ⟨y, hy⟩ : ∃ y, l[i]? = some y := ⟨_, List.getElem?_eq_getElem (by rw [HNL.out]; exact hik)⟩
    obtain ⟨⟨s', e', m'⟩, hm⟩ : ∃ z, m[i]? = some z := ⟨_, List.getElem?_eq_getElem (by rw [HN.out]; exact hik)⟩
    have HSG := qh9 (HSUB.out i _ y hm hy)
    have HRr := qh9 (hR.out.ks (fun _ h => h) HS.out HK.out)
    obtain ⟨_, hbl, hat⟩ := HRr.out.at' _ _ _ rfl
    obtain ⟨x, c0, c1, c2, hsx⟩ := hat i s' e' m' hm
    obtain ⟨A, n', c', rfl⟩ := hsx.shape
    have HX := qh9 hsx
    have HY := qh9 hy
    have HGT := qh9 (szTs_get hy)
    have S1 := qh9 (SpB.newU wr (.int .i64 (s' : Int)) (.int .i64 (e' : Int)) (.slice A n' c'))
    have HA := qh9 (below_al wr (.cells #[.int .i64 (s' : Int), .int .i64 (e' : Int), .slice A n' c'] 89))
    have HB4 := qh9 (HB.out.keep HA.out)
    have HX4 := qh9 (hsx.keep (fun _ h => h) fun k cur _ hh => HA.out.block k (blk_lt hh))
    have HK4 := qh9 (HK.out.trans (KpS.of (g := g) HA.out (by have := H.out.hB; have := HK.out.bel.size; omega)))
    have hq1 := preAll_len (W - bf.length - 1) (bf ++ [40]) (bf.length + 1) (l.take i)
    have hq2 : (ls ++ preAll (W - bf.length - 1) (bf ++ [40]) (bf.length + 1) (l.take i)).length + szT y ≤ 1000000 := by
     have := HGT.out
     rw [List.length_append]
     omega
    have hyk : szT y ≤ k := by have := HGT.out; omega
    have hyl : szT y ≤ szTs l := by have := HGT.out; omega
    have HP := qh9 (preAll_take (W := W - bf.length - 1) (bf := bf ++ [40]) (k := bf.length + 1) hy)
    clear hat hsx hy hm hq1
    generalize hbq : (if i = 0 then bf ++ [40] else List.replicate (bf.length + 1) 32) = bq at HP ⊢
    have hbl : bq.length = bf.length + 1 := by
     rw [← hbq]
     split <;> simp
    have hwe : W - (bf.length : Int) - 1 = W - (bq.length : Int) := by omega
    have HW2 := qh9 hwe
    have hb5 : bq.length + szT y ≤ 1000000 := by omega
    clear hbq hwe
    go_upto_region 9 with fail
    generalize wr.alloc (.cells #[.int .i64 (s' : Int), .int .i64 (e' : Int), .slice A n' c'] 89) = W4 at S1 HA HB4 HX4 HK4 ⊢
    obtain ⟨s0, s1, s2⟩ := S1.out.c
    go_wp2_with fail
    refine (HIH.out.go hyk HSG.out HB4.out HX4.out HS.out hfull hb5 hq2).mono ?_
    rintro e5 w5 ⟨rfl, ⟨v5, h5⟩, hk5⟩
    replace h5 := qh9 h5
    replace hk5 := qh9 (HK4.out.trans hk5)
    clear s0 s1 s2
    go_wp2_with fail
    go_roundw
    case rel => exact ⟨i + 1, v5, by omega, by go_num, by rw [if_neg (Nat.succ_ne_zero i)], qh9 (by rw [HP.out, ← List.append_assoc, HW2.out]; rw [HW2.out] at h5; exact h5.out), hk5⟩
    case measure => simp [intOf]; omega
  · have hik2 : ¬ (i : Int) < (n : Int) := by omega
    generalize (if i = 0 then bf ++ [40] else List.replicate (bf.length + 1) 32) = bq
    have e : l.take i = l := List.take_of_length_le (by rw [HNL.out]; omega)
    rw [e] at HB
    have hl0 : l ≠ [] := fun e0 => by
     have := HNL.out
     rw [e0] at this
     simp only [List.length_nil] at this
     omega
    obtain ⟨L, z, eL, eC⟩ := clo_last _ (preAll_ne (W := W - bf.length - 1) (bf := bf ++ [40]) (k := bf.length + 1) hl0)
    have EC := qh9 eC
    rw [eL, ← List.append_assoc] at HB
    obtain ⟨r, c', rfl, hc', hcell, hrg, hrl, hfr, hst⟩ := HB.out.last
    obtain ⟨M, hM⟩ : ∃ M, (ls ++ L).length = M := ⟨_, rfl⟩
    rw [hM] at hst hcell hfr HB
    obtain ⟨N, hN⟩ : ∃ N, M + 1 = N := ⟨_, rfl⟩
    rw [hN] at HB hst
    have hM1 : M < N := by omega
    have hN1 : (N : Int) - 1 = (M : Int) := by omega
    have hM2 : M ≤ 2000000 := by
     have := preAll_len (W - bf.length - 1) (bf ++ [40]) (bf.length + 1) l
     rw [eL] at this
     simp only [List.length_append, List.length_cons, List.length_nil] at this hM
     omega
    have HST := qh9 hst
    obtain ⟨b0, b1, b2⟩ := HB.out.c
    have hM3 : (M : Int) < (N : Int) := by omega
    have hM4 : (0 : Int) ≤ (M : Int) := by omega
    have hz1 : (BA z).size + 1 ≤ 9223372036854775807 := by
     have := HBD.out z (by rw [eL]; simp)
     rw [BA_size z]
     omega
    have HZ := qh9 (BA_app3 z [41])
    have hwM : IntKind.i64.wrap (M : Int) = (M : Int) := IntWalk.i64_in _ (by omega)

    clear hst e eC eL hM hN
    go_upto_region 12 with fail
    go_region_with (fail)
    all_goals
     go_end0
     have hz := HST.out wr.drew (Below.drew (Below.refl _ _)) (z ++ [41])
     rw [HZ.out] at hz
     exact ⟨rfl, ⟨_, by rw [EC.out, ← List.append_assoc]; exact hz.1⟩, HK.out.trans hz.2⟩
theorem addC : ∀ k, AddC k
 | 0 => by
  intro tr s e m w B g full W v x ls bf S h1
  have := szT_pos tr
  omega
 | k + 1 => by
  intro tr s e m w B g full W v x ls bf S h1 hsg hbr hsp hS hfull hbf hls
  obtain ⟨t, l⟩ := tr
  have e0 : szT (.mk t l) = 1 + szTs l := by rw [szT]
  have hels := hsg.els
  have hll := szTs_len l
  rw [e0] at h1 hbf hls
  cases hsg with
  | mk _ _ _ _ _ he hle hseg hml hsub =>
   by_cases hcase : (t.length : Int) ≤ W - bf.length ∨ l.length < 2
   · rw [lin_whole hcase]
     cases hsp with
     | nil => exact addWhole w B g full W v ls hbr s e none 0 0 bf t he hle hseg (by rw [← hml] at hcase; exact hcase) hfull (by omega) (by omega) (by omega)
     | row _ b c cur x h0 hc hb hh hcell hsub' => exact addWhole w B g full W v ls hbr s e _ m.length c bf t he hle hseg (by rw [hml]; exact hcase) hfull (by omega) (by omega) (by omega)
   · rw [lin_broken hcase]
     have hrow := hsp
     cases hsp with
     | nil =>
      simp only [List.length_nil] at hml
      exact absurd (.inr (by omega)) hcase
     | row _ b c cur x h0 hc hb hh hcell hsub' => exact addBroken k (addC k) t l s e m w B g full W v ls bf S (by omega) hels he hle hseg hml hsub hbr b c hrow hS (by rw [hml]; exact hcase) hfull (by omega) (by omega)
mutual
theorem szT_trO (nm : List UInt8 → List UInt8 → List UInt8) : ∀ o : Ob, szT (trO nm o) ≤ o.nodes
 | .cons a d => by
  have h1 := szT_trO nm a
  have h2 := szTs_trE nm d
  have e : (Ob.cons a d).nodes = 1 + a.nodes + d.nodes := rfl
  unfold trO szT
  split
  · simp [szTs]; omega
  · split
    · rw [show szTs (trO nm a :: trE nm d) = szT (trO nm a) + szTs (trE nm d) by rw [szTs]]
      omega
    · simp [szTs]; omega
 | .num q => by
  unfold trO szT
  simp [szTs, Ob.nodes]
 | .str q => by
  unfold trO szT
  simp [szTs, Ob.nodes]
 | .sym p m => by
  unfold trO szT
  simp [szTs, Ob.nodes]
theorem szTs_trE (nm : List UInt8 → List UInt8 → List UInt8) : ∀ o : Ob, szTs (trE nm o) ≤ o.nodes
 | .cons a d => by
  have h1 := szT_trO nm a
  have h2 := szTs_trE nm d
  have e : (Ob.cons a d).nodes = 1 + a.nodes + d.nodes := rfl
  rw [show trE nm (.cons a d) = trO nm a :: trE nm d by rw [trE], show szTs (trO nm a :: trE nm d) = szT (trO nm a) + szTs (trE nm d) by rw [szTs]]
  omega
 | .num q => by simp [trE, szTs]
 | .str q => by simp [trE, szTs]
 | .sym p m => by simp [trE, szTs]
end
/-- These strings, in a row that is the answer's own. -/
def LnsV (w w' : World) (v : Value) (ls : List (List UInt8)) : Prop := w'.ownsRow w.heap.size 9 1 v ls.length (strC ls)
theorem own_baseU {w : World} {B B' e size n : Nat} {v : Value} {xs : List Value} (h : w.ownsRow B' e size v n xs) (hB : B ≤ B') : w.ownsRow B e size v n xs := by
 refine ⟨h.1, ?_⟩
 rcases h.2 with h0 | ⟨g, cap, cur, e1, e2, e3⟩
 · exact .inl h0
 · exact .inr ⟨g, cap, cur, e1, Nat.le_trans hB e2, e3⟩
def RetLn (w : World) (ls : List (List UInt8)) (n : Int) (e : Ending) (w' : World) : Prop := ∃ v, e = .returned (.tuple #[v, .int .i64 n]) ∧ LnsV w w' v ls ∧ Below w.heap.size w w'
theorem KpG.freeze {B g : Nat} {w : World} {r : Nat} {cur : Array Value} {fr : Nat × Nat} (hB : B ≤ r) (hr : w.heap[r]? = some (.cells cur 5 fr)) (n : Nat) : KpG B g w (w.freeze ⟨r, 0, none⟩ n) := by
 refine ⟨Lib.below_freeze (Below.refl B w) (p := ⟨r, 0, none⟩) (show B ≤ r from hB) n, fun k _ _ hn => ?_⟩
 have hkr : k ≠ r := fun e => hn cur fr (by rw [e]; exact hr)
 unfold World.freeze
 split
 · rfl
 · simp only [Array.getElem?_modify]
   rw [if_neg (fun e => hkr e.symm)]
theorem stringK (w : World) (B g : Nat) (lv : Value) (cur : ByteArray) (bp bv : Value) (acc : List UInt8) (h : PrW w B g lv cur bp bv acc) (h0 : acc ≠ []) :
 Calls Tryz.prog 51 #[.pointer (some ⟨g, 2, none⟩)] w (fun e w' => e = .returned (.string (BA acc)) ∧ KpG B g w w') := by
 have c3 : w.drew.cell? ⟨g, 3, none⟩ = some bv := h.c3
 have hB := h.hB
 have hrow := h.own.row
 have hl0 : acc.length ≠ 0 := by simpa using h0
 rcases h.own.2 with ⟨_, hz⟩ | ⟨r, cap, cur', rfl, hbg, hh, hn, hcm, hcs, _⟩
 · exact absurd hz hl0
 · have hSD : (Builtin.unsafeSliceData_ #[82] 122 #[.slice (some ⟨r, 0, none⟩) acc.length cap]).run Tryz.prog w.drew = .ok (.pointer (some ⟨r, 0, none⟩)) w.drew :=
    Lib.run_unsafeSliceData_row _ _ _ _ _ _ (by omega)
   have hUS : (Builtin.unsafeString_ #[122, 3] 9 #[.pointer (some ⟨r, 0, none⟩), .int .i64 acc.length]).run Tryz.prog w.drew = .ok (.string (BA acc)) (w.drew.freeze ⟨r, 0, none⟩ acc.length) := by
    refine Lib.run_unsafeString_row w.drew 122 3 9 5 Tryz.underlying122 (by kernel_rfl) r cur'.size (by have hg' : w.drew.heap[r]? = some (.cells cur' 5 (0, 0)) := hh; simp [World.shape?, hg']) acc h0 (by omega) (by unfold maxLen at hcm; omega) ?_
    intro j x hx
    obtain ⟨hj, rfl⟩ := List.getElem?_eq_some_iff.1 hx
    exact cells_cb hrow j hj
   have hd : KpG B g w w.drew := ⟨Below.drew (Below.refl B w), fun _ _ _ _ => rfl⟩
   have HF := qh9 (hd.trans (KpG.freeze (g := g) (w := w.drew) (cur := cur') (fr := (0, 0)) (show B ≤ r by omega) hh acc.length))
   clear hB hrow hl0 hbg hh hn hcm hcs h h0 hd
   go_enter Tryz.func51, Tryz.ntmps51
   have mixed : Tryz.prog.follows Departure.mixedOrders = true := by kernel_rfl
   go_wp2
   go_region_o
   all_goals (go_wp2; go_ret; exact ⟨rfl, HF.out⟩)
/-- What Lines answers. -/
def lnV (l : List Sy.Pg) (cur : ByteArray) (o : Ob) (b : Bool) (W : Int) : List (List UInt8) × Int := if chkV l cur o b = 0 then (linT W (trO (nmU l cur) o), 0) else ([], chkV l cur o b)
theorem linesP (l : List Sy.Pg) (v : Value) (cur : ByteArray) (o : Ob) (p : Value) (b : Bool) (W : Int) (w : World) (hv : Sy.PgV w l v) (hl : l.length ≤ 1000000) (hi : ∀ q ∈ l, q.2.length ≤ 1000000) (hT : EscT w) (h : Hd w o p) (k : Nat) (hk : k ≤ 900) (hbd : o.bd k) (hn : o.nodes ≤ 3000)
 (hV : ∀ X, Below w.heap.size w X → Calls Tryz.prog 66 #[vO o p] X (RetB X b)) :
 Calls Tryz.prog 20 #[v, .string cur, vO o p, .int .i64 W] w (RetLn w (lnV l cur o b W).1 (lnV l cur o b W).2) := by
 have CC : Hid (∀ X, Below w.heap.size w X → Calls Tryz.prog 49 #[v, .string cur, vO o p] X (RetI X (chkV l cur o b))) := fun X hb => checkObjectP l v cur o p b X (hv.keep hb) hl hi (h.below hb) (fun Y hY => hV Y (hb.trans (hY.mono hb.size)))
 have hz := (prO_len (k := k) (c := 4 * k + 100) (nm := nmU l cur) (Nat.le_refl _) (nmU_len88 l cur) 3000 o hn hbd).1
 have hz2 : (prO (nmU l cur) o).length ≤ 100000000 := by
  have h1 : (4 * k + 100) * o.nodes ≤ 4000 * 3000 := Nat.mul_le_mul (by omega) hn
  omega
 have HZ := qh9 hz2
 have HNE := qh9 (prO_ne (nmU_ne l cur) hbd)
 have CO : Hid (∀ W0 g, Below w.heap.size w W0 → PrC W0 g l v cur o) := fun W0 g hb => objG W0 g l v cur (hv.keep hb) hl hi (hT.keep hb) k hk 3000 o hn hn hbd
 have HD := qh9 h
 have hsz : szT (trO (nmU l cur) o) ≤ 3000 := Nat.le_trans (szT_trO _ o) hn
 have HSG : Hid (Sg (prO (nmU l cur) o) (spU (nmU l cur) 0 o) (trO (nmU l cur) o)) := by
  have := sg_ob (nmU l cur) (prO (nmU l cur) o) o [] [] (by simp)
  exact this
 have hcc := chk_cases l cur o b
 unfold lnV
 generalize chkV l cur o b = c at CC hcc ⊢
 generalize trO (nmU l cur) o = tr at HSG hsz ⊢
 obtain ⟨V, hV2⟩ : ∃ V : List (List UInt8) × Int, (if c = 0 then (linT W tr, (0 : Int)) else ([], c)) = V := ⟨_, rfl⟩
 rw [hV2]
 have HV := qh9 hV2
 obtain ⟨Vs, Vn⟩ := V
 clear hV2
 obtain ⟨A, cc, rfl, hx⟩ := hv
 clear hz hz2 hV hT hbd h hx hl hi hn
 generalize l.length = ln at *
 obtain ⟨a0, a1, a2, a3, a4, a5, ea⟩ := cells7 o p
 have T := Bx1.new w #[a0, a1, a2, a3, a4, a5, p]
 rw [vO_cells ea]
 go_enter Tryz.func20, Tryz.ntmps20
 go_upto_region 1 with fail
 generalize w.alloc (.cells #[a0, a1, a2, a3, a4, a5, p] 39) = W1 at T ⊢
 have B0 : Hid (Bx W1 (w.heap.size) (cellsO o p).toArray) := by rw [ea]; exact T.b0
 have HW := qh9 T.bel
 clear T ea
 go_wp2_with (first | ((with_reducible refine loadB (.tmp 6) ?_ ?_ ?_ B0.out ?_); rfl; rfl; rfl))
 with_reducible refine (CC.out _ HW.out).mono ?_
 rintro e w1 ⟨rfl, hb⟩
 replace B0 := qh9 (B0.out.keep hb)
 replace HW := qc9 HW hb
 clear hb CC
 rcases hcc with rfl | rfl | rfl
 · have hx := Prod.mk.inj HV.out
   obtain ⟨hx1, hx2⟩ := hx
   subst hx1 hx2
   clear HV
   have hP1 : Hid (PrW (w1.alloc (.cells #[.slice A ln cc, .string cur, .pointer none, .slice none 0 0] 86)) w1.heap.size w1.heap.size (.slice A ln cc) cur (.pointer none) (.slice none 0 0) []) :=
    ⟨Nat.le_refl _, heap_alloc_new _ _, .inl rfl, ⟨rfl, .inl ⟨rfl, rfl⟩⟩⟩
   have hal := below_al w1 (.cells #[.slice A ln cc, .string cur, .pointer none, .slice none 0 0] 86)
   replace B0 := qh9 (B0.out.keep hal)
   have CT := qh9 (CO.out w1 w1.heap.size HW.out)
   have HD1 := qh9 (HD.out.below HW.out)
   have HAL := qh9 hal
   have hgs : w1.heap.size < (w1.alloc (.cells #[.slice A ln cc, .string cur, .pointer none, .slice none 0 0] 86)).heap.size := by
    simp only [World.size_alloc]
    omega
   clear hal CO HD
   go_upto_region 5 with fail
   generalize w1.alloc (.cells #[.slice A ln cc, .string cur, .pointer none, .slice none 0 0] 86) = W2 at hP1 B0 HAL hgs ⊢
   go_wp2_with (first | ((with_reducible refine loadB (.tmp 6) ?_ ?_ ?_ B0.out ?_); rfl; rfl; rfl))
   with_reducible refine (CT.out.go W2 _ _ p [] HAL.out hP1.out HD1.out (by have := HZ.out; simpa using this)).mono ?_
   rintro e w2 ⟨⟨v2, rfl, hsp⟩, ⟨bp2, bv2, hp2⟩, hk2⟩
   have HP2 : Hid (PrW w2 w1.heap.size w1.heap.size (.slice A ln cc) cur bp2 bv2 (prO (nmU l cur) o)) := by
    rw [List.nil_append] at hp2
    exact hp2
   replace HAL := qh9 (HAL.out.trans hk2.bel)
   obtain ⟨⟨s, e, m⟩, hsu⟩ : ∃ sp, spU (nmU l cur) 0 o = sp := ⟨_, rfl⟩
   have hsp' : SpV w2 (fun b => W2.heap.size ≤ b ∧ b < w2.heap.size) (.mk s e m) v2 := hsu ▸ hsp
   obtain ⟨x, ex, hsx⟩ := hsp'
   replace ex : v2 = .agg #[.int .i64 (s : Int), .int .i64 (e : Int), x] := ex
   subst ex
   replace HSG : Hid (Sg (prO (nmU l cur) o) (.mk s e m) tr) := hsu ▸ HSG
   obtain ⟨A2, n2, c2, rfl⟩ := SpL.shape hsx
   have HX := qh9 hsx
   clear hp2 hk2 B0 hP1 CT HD1 hsp hsu hsx
   have HSB := qh9 (SpB.newU w2 (.int .i64 (s : Int)) (.int .i64 (e : Int)) (.slice A2 n2 c2))
   have HA := qh9 (below_al w2 (.cells #[.int .i64 (s : Int), .int .i64 (e : Int), .slice A2 n2 c2] 89))
   have hg2 : w1.heap.size < w2.heap.size := HP2.out.lt
   go_upto_region 6 with fail
   generalize w2.alloc (.cells #[.int .i64 (s : Int), .int .i64 (e : Int), .slice A2 n2 c2] 89) = W3 at HSB HA ⊢
   replace HP2 := qh9 (HP2.out.keep HA.out)
   replace HAL := qh9 (HAL.out.trans (HA.out.mono (by omega)))
   go_wp2_with fail
   with_reducible refine (stringK W3 _ _ _ cur _ _ _ HP2.out HNE.out).mono ?_
   rintro e3 w3 ⟨rfl, hk3⟩
   have hb3 := hk3.bel
   have hal := below_al w3 (.cells #[.string (BA (prO (nmU l cur) o)), .int .i64 W, .slice none 0 0] 97)
   have hal2 : KpG w1.heap.size w1.heap.size w3 (w3.alloc (.cells #[.string (BA (prO (nmU l cur) o)), .int .i64 W, .slice none 0 0] 97)) := KpG.of hal (by have := hb3.size; have := HA.out.size; omega)
   have HF := qh9 (hk3.trans hal2)
   have HW4 := qh9 (chain2 HW.out (HAL.out.trans HF.out.bel) (Nat.le_refl _))
   have HSB4 := qh9 (HSB.out.kg HF.out (show w2.heap.size ≠ w1.heap.size by omega))
   have HX4 := qh9 ((HX.out.keep (S' := fun b => W2.heap.size ≤ b ∧ b < w2.heap.size) (fun _ h => h) fun k cur _ hh => HA.out.block k (blk_lt hh)).kg (S' := fun b => W2.heap.size ≤ b ∧ b < w2.heap.size) (fun _ h => h) (fun b h => by have := h.1; omega) HF.out)
   have HB4 : Hid (BrW (w3.alloc (.cells #[.string (BA (prO (nmU l cur) o)), .int .i64 W, .slice none 0 0] 97)) w3.heap.size w3.heap.size (prO (nmU l cur) o) W (.slice none 0 0) []) :=
    ⟨Nat.le_refl _, heap_alloc_new _ _, rfl, .inl ⟨rfl, rfl⟩⟩
   have hsz3 : w2.heap.size ≤ w3.heap.size := Nat.le_trans HA.out.size hb3.size
   clear hb3 hal hal2 hk3 HF HP2 HSB
   go_upto_region 7 with fail
   generalize w3.alloc (.cells #[.string (BA (prO (nmU l cur) o)), .int .i64 W, .slice none 0 0] 97) = W4 at HW4 HSB4 HX4 HB4 ⊢
   obtain ⟨s0, s1, s2⟩ := HSB4.out.c
   have CAD := qh9 ((addC 3000).go (bf := []) hsz HSG.out HB4.out HX4.out (fun b h => by have := h.2; omega) HZ.out (by simp; omega) (by simp; omega))
   rw [show BA [] = ⟨#[]⟩ from rfl] at CAD
   go_wp2_with fail
   refine (CAD.out).mono ?_
   rintro e5 w5 ⟨rfl, ⟨v5, h5⟩, hk5⟩
   obtain ⟨b0, b1, b2⟩ := h5.c
   have HB5 := qh9 h5
   have HK5 := qh9 hk5
   clear h5 hk5 s0 s1 s2
   go_wp2_with fail
   go_ret2
   have ho := HB5.out.own
   have e0 : ([] : List (List UInt8)) ++ pre [] (linT (W - ((([] : List UInt8)).length : Int)) tr) = linT W tr := by
    have : W - ((([] : List UInt8)).length : Int) = W := by simp
    rw [this]
    have h0 : pre [] (linT W tr) = linT W tr := by
     have := pre_sp 0 (linT W tr)
     simpa using this
    rw [h0]
    rfl
   rw [e0] at ho
   have hws := HW4.out.size
   exact ⟨_, rfl, own_baseU ho (by have := HW.out.size; omega), HW4.out.trans (HK5.out.bel.mono (by have := HW.out.size; omega))⟩
 · have hx := Prod.mk.inj HV.out
   obtain ⟨hx1, hx2⟩ := hx
   subst hx1 hx2
   clear HV
   go_wp2
   go_ret2
   exact ⟨_, rfl, ⟨rfl, .inl ⟨rfl, rfl⟩⟩, HW.out⟩
 · have hx := Prod.mk.inj HV.out
   obtain ⟨hx1, hx2⟩ := hx
   subst hx1 hx2
   clear HV
   go_wp2
   go_ret2
   exact ⟨_, rfl, ⟨rfl, .inl ⟨rfl, rfl⟩⟩, HW.out⟩
section
variable (nm : List UInt8 → List UInt8 → List UInt8)
theorem prp_items : ∀ d : Ob, (prpU d = true → ∃ L, d.items = some L ∧ trE nm d = L.map (trO nm)) ∧ (prpU d = false → d.items = none)
 | .cons a d => by
  have h := prp_items d
  have e1 : prpU (.cons a d) = prpU d := rfl
  have e2 : (Ob.cons a d).items = d.items.map (a :: ·) := rfl
  rw [e1, e2]
  refine ⟨fun hp => ?_, fun hp => ?_⟩
  · obtain ⟨L, h1, h2⟩ := h.1 hp
    refine ⟨a :: L, by rw [h1]; rfl, ?_⟩
    rw [show trE nm (.cons a d) = trO nm a :: trE nm d by rw [trE], h2]
    rfl
  · rw [h.2 hp]
    rfl
 | .num q => by simp [prpU, Ob.nil, Ob.items]
 | .str q => by simp [prpU, Ob.nil, Ob.items]
 | .sym p n => by
  refine ⟨fun hp => ⟨[], ?_, ?_⟩, fun hp => ?_⟩
  · have : Ob.sym p n = .nil := by simpa [prpU] using hp
    simp [Ob.items, this]
  · simp [trE]
  · have : ¬ Ob.sym p n = .nil := by simpa [prpU] using hp
    simp [Ob.items, this]
theorem tr_none {o : Ob} (h : o.items = none) : (trO nm o).l = [] := by
 cases o with
 | cons a d =>
  have hd : prpU d = false := by
   cases hp : prpU d with
   | false => rfl
   | true =>
    obtain ⟨L, h1, _⟩ := (prp_items nm d).1 hp
    have e2 : (Ob.cons a d).items = d.items.map (a :: ·) := rfl
    rw [e2, h1] at h
    cases h
  unfold trO
  show (if isQU a d = true then [] else if prpU d = true then trO nm a :: trE nm d else []) = []
  rw [hd]
  simp
 | _ => unfold trO; rfl
theorem tr_some {o : Ob} {L : List Ob} (h : o.items = some L) : (trO nm o).l = if (qO o).isSome = true then [] else L.map (trO nm) := by
 cases o with
 | cons a d =>
  have e2 : (Ob.cons a d).items = d.items.map (a :: ·) := rfl
  rw [e2] at h
  cases hp : prpU d with
  | false =>
   rw [(prp_items nm d).2 hp] at h
   cases h
  | true =>
   obtain ⟨L', h1, h2⟩ := (prp_items nm d).1 hp
   rw [h1] at h
   have hL : a :: L' = L := by simpa using h
   subst hL
   unfold trO
   show (if isQU a d = true then [] else if prpU d = true then trO nm a :: trE nm d else []) = _
   rw [hp, if_pos rfl, h2, qO_cons]
   cases hq : isQU a d with
   | false => simp
   | true =>
    cases d with
    | cons x e => simp
    | num q => simp [isQU] at hq
    | str q => simp [isQU] at hq
    | sym p n => simp [isQU] at hq
 | num q => simp [Ob.items, Ob.nil] at h
 | str q => simp [Ob.items, Ob.nil] at h
 | sym p n =>
  have e1 : qO (.sym p n) = none := by
   unfold qO
   by_cases e : Ob.sym p n = .nil
   · rw [e]; rfl
   · simp [Ob.items, e]
  rw [e1]
  by_cases e : Ob.sym p n = .nil
  · have hL : L = [] := by
     rw [e] at h
     have e2 : Ob.nil.items = some [] := rfl
     rw [e2] at h
     exact (Option.some.inj h).symm
    subst hL
    unfold trO
    rfl
  · simp [Ob.items, e] at h
theorem tr_eq (o : Ob) : trO nm o = .mk (prO nm o) (trO nm o).l := by
 have := trO_t nm o
 cases h : trO nm o with
 | mk t l =>
  rw [h] at this
  have e : t = prO nm o := this
  rw [e]
  rfl
theorem lin_one {W : Int} {o : Ob} (h : ((prO nm o).length : Int) ≤ W ∨ (trO nm o).l.length < 2) : linT W (trO nm o) = [prO nm o] := by
 rw [tr_eq nm o]
 unfold linT
 rw [if_pos h]
theorem lin_many {W : Int} {o : Ob} (h : ¬ (((prO nm o).length : Int) ≤ W ∨ (trO nm o).l.length < 2)) : linT W (trO nm o) = clo (opn (linTs (W - 1) (trO nm o).l)) := by
 rw [tr_eq nm o]
 unfold linT
 rw [if_neg h]
 rfl
end
/-- The call returned these strings. -/
def RetLs (w : World) (ls : List (List UInt8)) (e : Ending) (w' : World) : Prop := ∃ v, e = .returned v ∧ LnsV w w' v ls ∧ Below w.heap.size w w'
theorem lns_one {w X : World} (h : Below w.heap.size w X) (t : List UInt8) : RetLs w [t] (.returned (.slice (some ⟨X.heap.size, 0, none⟩) 1 1)) (X.alloc (.cells #[.string (BA t)] 9)) := by
 refine ⟨_, rfl, ⟨rfl, .inr ⟨X.heap.size, 1, #[.string (BA t)], rfl, h.size, heap_alloc_new _ _, Nat.le_refl _, by decide, rfl, rfl⟩⟩, chain2 h (below_al X _) (Nat.le_refl _)⟩
/-- The reference's lines of this object, wherever it stands. -/
def LnC (l : List Sy.Pg) (lv : Value) (cur : ByteArray) (a : Ob) : Prop := ∀ (X : World) (q : Value) (W : Int), Sy.PgV X l lv → Hd X a q → -1000000 ≤ W - (a.nodes : Int) → W ≤ 9223372036854775807 → Calls Tryz.prog 56 #[lv, .string cur, vO a q, .int .i64 W] X (RetLs X (linT W (trO (nmU l cur) a)))
theorem LnC.go {l : List Sy.Pg} {lv : Value} {cur : ByteArray} {a : Ob} (h : LnC l lv cur a) (X : World) (q : Value) (W : Int) (h1 : Sy.PgV X l lv) (h2 : Hd X a q) (h3 : -1000000 ≤ W - (a.nodes : Int)) (h4 : W ≤ 9223372036854775807) : Calls Tryz.prog 56 #[lv, .string cur, vO a q, .int .i64 W] X (RetLs X (linT W (trO (nmU l cur) a))) := h X q W h1 h2 h3 h4
theorem linesRN (l : List Sy.Pg) (v : Value) (cur : ByteArray) (o : Ob) (p : Value) (W : Int) (w : World) (hv : Sy.PgV w l v) (hp : Hd w o p) (hz : (prO (nmU l cur) o).length ≤ 100000000) (ct : TxC l v cur o) 
 (ci : ∀ X, Below w.heap.size w X → Calls Tryz.prog 90 #[vO o p] X (RetJo X (Has w) none)) (cq : ∀ X, Below w.heap.size w X → Calls Tryz.prog 86 #[vO o p] X (RetQU w X none)) :
 Calls Tryz.prog 56 #[v, .string cur, vO o p, .int .i64 W] w (RetLs w [prO (nmU l cur) o]) := by
 have CT := qh9 ct
 have CI := qh9 ci
 have CQ := qh9 cq
 have HV := qh9 hv
 have HP := qh9 hp
 have zt : (BA (prO (nmU l cur) o)).size = (prO (nmU l cur) o).length := BA_size _
 clear ct ci cq hv hp
 obtain ⟨a0, a1, a2, a3, a4, a5, ea⟩ := cells7 o p
 have T := Bx1.new w #[a0, a1, a2, a3, a4, a5, p]
 rw [vO_cells ea]
 go_enter Tryz.func56, Tryz.ntmps56
 go_upto_region 1 with fail
 generalize w.alloc (.cells #[a0, a1, a2, a3, a4, a5, p] 39) = W1 at T ⊢
 have B0 : Hid (Bx W1 (w.heap.size) (cellsO o p).toArray) := by rw [ea]; exact T.b0
 have HW := qh9 T.bel
 clear T ea
 go_wp2_with (first | ((with_reducible refine loadB (.tmp 6) ?_ ?_ ?_ B0.out ?_); rfl; rfl; rfl))
 with_reducible refine (CT.out.go _ p (HV.out.keep HW.out) (HP.out.below HW.out)).mono ?_
 rintro e w1 ⟨rfl, hb⟩
 replace B0 := qh9 (B0.out.keep hb)
 replace HW := qc9 HW hb
 clear hb CT
 obtain ⟨st, hst⟩ : ∃ st, BA (prO (nmU l cur) o) = st := ⟨_, rfl⟩
 have HST := qh9 hst.symm
 rw [hst] at zt ⊢
 clear hst
 go_wp2_with (first | ((with_reducible refine loadB (.tmp 6) ?_ ?_ ?_ B0.out ?_); rfl; rfl; rfl))
 with_reducible refine (CI.out _ HW.out).mono ?_
 rintro e w2 ⟨hb, rfl⟩
 replace B0 := qh9 (B0.out.keep hb)
 replace HW := qc9 HW hb
 clear hb CI
 go_wp2_with (first | ((with_reducible refine loadB (.tmp 6) ?_ ?_ ?_ B0.out ?_); rfl; rfl; rfl))
 with_reducible refine (CQ.out _ HW.out).mono ?_
 rintro e w3 ⟨rfl, hb⟩
 replace HW := qc9 HW hb
 skip
 clear hb CQ B0
 have T1 := qh9 (aO_new w3 #[.int .i64 0, .string ⟨#[]⟩, .string ⟨#[]⟩, .string ⟨#[]⟩, .string ⟨#[]⟩, .string ⟨#[]⟩, .slice none 0 0])
 unfold aO at T1
 have hb2 : Below w3.heap.size w3 (World.setRow (w3.alloc (.cells #[.int .i64 0, .string ⟨#[]⟩, .string ⟨#[]⟩, .string ⟨#[]⟩, .string ⟨#[]⟩, .string ⟨#[]⟩, .slice none 0 0] 39)) w3.heap.size zeroC) := below_setRowO (aO_below w3 _) (Nat.le_refl _) _
 replace HW := qc9 HW hb2
 skip
 clear hb2
 go_upto_region 4 with ((with_reducible refine storeZU (g := w3.heap.size) (.tmp 12) (.tmp 30) ?_ ?_ ?_ ?_ T1.out ?_); rfl; rfl; rfl; rfl; generalize World.setRow (w3.alloc (.cells #[.int .i64 0, .string ⟨#[]⟩, .string ⟨#[]⟩, .string ⟨#[]⟩, .string ⟨#[]⟩, .string ⟨#[]⟩, .slice none 0 0] 39)) w3.heap.size zeroC = X1 at HW ⊢; clear T1)
 by_cases hA : (st.size : Int) ≤ W
 · go_wp2
   go_ret
   rw [HST.out]
   exact lns_one HW.out _
 · go_wp2
   go_ret
   rw [HST.out]
   exact lns_one HW.out _
theorem linesRQ (l : List Sy.Pg) (v : Value) (cur : ByteArray) (o : Ob) (p : Value) (W : Int) (w : World) (hv : Sy.PgV w l v) (hp : Hd w o p) (hz : (prO (nmU l cur) o).length ≤ 100000000) (ct : TxC l v cur o) (L : List Ob) (x : Ob) (hL : L.length ≤ 100000)
 (ci : ∀ X, Below w.heap.size w X → Calls Tryz.prog 90 #[vO o p] X (RetJo X (Has w) (some L))) (cq : ∀ X, Below w.heap.size w X → Calls Tryz.prog 86 #[vO o p] X (RetQU w X (some x))) :
 Calls Tryz.prog 56 #[v, .string cur, vO o p, .int .i64 W] w (RetLs w [prO (nmU l cur) o]) := by
 have CT := qh9 ct
 have CI := qh9 ci
 have CQ := qh9 cq
 have HV := qh9 hv
 have HP := qh9 hp
 have zt : (BA (prO (nmU l cur) o)).size = (prO (nmU l cur) o).length := BA_size _
 clear ct ci cq hv hp
 obtain ⟨a0, a1, a2, a3, a4, a5, ea⟩ := cells7 o p
 have T := Bx1.new w #[a0, a1, a2, a3, a4, a5, p]
 rw [vO_cells ea]
 go_enter Tryz.func56, Tryz.ntmps56
 go_upto_region 1 with fail
 generalize w.alloc (.cells #[a0, a1, a2, a3, a4, a5, p] 39) = W1 at T ⊢
 have B0 : Hid (Bx W1 (w.heap.size) (cellsO o p).toArray) := by rw [ea]; exact T.b0
 have HW := qh9 T.bel
 clear T ea
 go_wp2_with (first | ((with_reducible refine loadB (.tmp 6) ?_ ?_ ?_ B0.out ?_); rfl; rfl; rfl))
 with_reducible refine (CT.out.go _ p (HV.out.keep HW.out) (HP.out.below HW.out)).mono ?_
 rintro e w1 ⟨rfl, hb⟩
 replace B0 := qh9 (B0.out.keep hb)
 replace HW := qc9 HW hb
 clear hb CT
 obtain ⟨st, hst⟩ : ∃ st, BA (prO (nmU l cur) o) = st := ⟨_, rfl⟩
 have HST := qh9 hst.symm
 rw [hst] at zt ⊢
 clear hst
 go_wp2_with (first | ((with_reducible refine loadB (.tmp 6) ?_ ?_ ?_ B0.out ?_); rfl; rfl; rfl))
 with_reducible refine (CI.out _ HW.out).mono ?_
 rintro e w2 ⟨hb, A, c, rfl, hc, hat⟩
 replace B0 := qh9 (B0.out.keep hb)
 replace HW := qc9 HW hb
 have HAT := qh9 hat
 clear hb CI hat
 clear HAT
 go_wp2_with (first | ((with_reducible refine loadB (.tmp 6) ?_ ?_ ?_ B0.out ?_); rfl; rfl; rfl))
 with_reducible refine (CQ.out _ HW.out).mono ?_
 rintro e w3 ⟨qx, rfl, hqx, hb⟩
 replace HW := qc9 HW hb
 have HQ1 := qh9 (hqx.below HW.out)
 clear hb CQ B0 hqx
 have T1 := qh9 (aO_new w3 #[.int .i64 0, .string ⟨#[]⟩, .string ⟨#[]⟩, .string ⟨#[]⟩, .string ⟨#[]⟩, .string ⟨#[]⟩, .slice none 0 0])
 unfold aO at T1
 go_upto_region 4 with ((with_reducible refine storeB (w1 := w3) (g := w3.heap.size) (b := x) (p := qx) (.tmp 12) (.tmp 30) ?_ ?_ ?_ ?_ HQ1.out T1.out ?_); rfl; rfl; rfl; rfl; have P := Pt1U.new (w := w3) (o := x) (p := qx) (z := #[.int .i64 0, .string ⟨#[]⟩, .string ⟨#[]⟩, .string ⟨#[]⟩, .string ⟨#[]⟩, .string ⟨#[]⟩, .slice none 0 0]); generalize World.setRow (w3.alloc (.cells #[.int .i64 0, .string ⟨#[]⟩, .string ⟨#[]⟩, .string ⟨#[]⟩, .string ⟨#[]⟩, .string ⟨#[]⟩, .slice none 0 0] 39)) w3.heap.size (cellsO x qx).toArray = X1 at P ⊢; replace HW := qh9 (chain2 HW.out P.bel (Nat.le_refl _)); clear P T1 HQ1)
 generalize L.length = n at *
 by_cases hA : (st.size : Int) ≤ W
 · go_wp2
   all_goals
    go_ret
    rw [HST.out]
    exact lns_one HW.out _
 · go_wp2
   all_goals
    go_ret
    rw [HST.out]
    exact lns_one HW.out _
theorem linesR1 (l : List Sy.Pg) (v : Value) (cur : ByteArray) (o : Ob) (p : Value) (W : Int) (w : World) (hv : Sy.PgV w l v) (hp : Hd w o p) (hz : (prO (nmU l cur) o).length ≤ 100000000) (ct : TxC l v cur o) (L : List Ob) (hL : L.length ≤ 100000) (h1 : ((prO (nmU l cur) o).length : Int) ≤ W ∨ L.length < 2)
 (ci : ∀ X, Below w.heap.size w X → Calls Tryz.prog 90 #[vO o p] X (RetJo X (Has w) (some L))) (cq : ∀ X, Below w.heap.size w X → Calls Tryz.prog 86 #[vO o p] X (RetQU w X none)) :
 Calls Tryz.prog 56 #[v, .string cur, vO o p, .int .i64 W] w (RetLs w [prO (nmU l cur) o]) := by
 have CT := qh9 ct
 have CI := qh9 ci
 have CQ := qh9 cq
 have HV := qh9 hv
 have HP := qh9 hp
 have zt : (BA (prO (nmU l cur) o)).size = (prO (nmU l cur) o).length := BA_size _
 clear ct ci cq hv hp
 obtain ⟨a0, a1, a2, a3, a4, a5, ea⟩ := cells7 o p
 have T := Bx1.new w #[a0, a1, a2, a3, a4, a5, p]
 rw [vO_cells ea]
 go_enter Tryz.func56, Tryz.ntmps56
 go_upto_region 1 with fail
 generalize w.alloc (.cells #[a0, a1, a2, a3, a4, a5, p] 39) = W1 at T ⊢
 have B0 : Hid (Bx W1 (w.heap.size) (cellsO o p).toArray) := by rw [ea]; exact T.b0
 have HW := qh9 T.bel
 clear T ea
 go_wp2_with (first | ((with_reducible refine loadB (.tmp 6) ?_ ?_ ?_ B0.out ?_); rfl; rfl; rfl))
 with_reducible refine (CT.out.go _ p (HV.out.keep HW.out) (HP.out.below HW.out)).mono ?_
 rintro e w1 ⟨rfl, hb⟩
 replace B0 := qh9 (B0.out.keep hb)
 replace HW := qc9 HW hb
 clear hb CT
 obtain ⟨st, hst⟩ : ∃ st, BA (prO (nmU l cur) o) = st := ⟨_, rfl⟩
 have HST := qh9 hst.symm
 rw [hst] at zt ⊢
 clear hst
 go_wp2_with (first | ((with_reducible refine loadB (.tmp 6) ?_ ?_ ?_ B0.out ?_); rfl; rfl; rfl))
 with_reducible refine (CI.out _ HW.out).mono ?_
 rintro e w2 ⟨hb, A, c, rfl, hc, hat⟩
 replace B0 := qh9 (B0.out.keep hb)
 replace HW := qc9 HW hb
 have HAT := qh9 hat
 clear hb CI hat
 clear HAT
 go_wp2_with (first | ((with_reducible refine loadB (.tmp 6) ?_ ?_ ?_ B0.out ?_); rfl; rfl; rfl))
 with_reducible refine (CQ.out _ HW.out).mono ?_
 rintro e w3 ⟨rfl, hb⟩
 replace HW := qc9 HW hb
 skip
 clear hb CQ B0
 have T1 := qh9 (aO_new w3 #[.int .i64 0, .string ⟨#[]⟩, .string ⟨#[]⟩, .string ⟨#[]⟩, .string ⟨#[]⟩, .string ⟨#[]⟩, .slice none 0 0])
 unfold aO at T1
 have hb2 : Below w3.heap.size w3 (World.setRow (w3.alloc (.cells #[.int .i64 0, .string ⟨#[]⟩, .string ⟨#[]⟩, .string ⟨#[]⟩, .string ⟨#[]⟩, .string ⟨#[]⟩, .slice none 0 0] 39)) w3.heap.size zeroC) := below_setRowO (aO_below w3 _) (Nat.le_refl _) _
 replace HW := qc9 HW hb2
 skip
 clear hb2
 go_upto_region 4 with ((with_reducible refine storeZU (g := w3.heap.size) (.tmp 12) (.tmp 30) ?_ ?_ ?_ ?_ T1.out ?_); rfl; rfl; rfl; rfl; generalize World.setRow (w3.alloc (.cells #[.int .i64 0, .string ⟨#[]⟩, .string ⟨#[]⟩, .string ⟨#[]⟩, .string ⟨#[]⟩, .string ⟨#[]⟩, .slice none 0 0] 39)) w3.heap.size zeroC = X1 at HW ⊢; clear T1)
 have h1' : (st.size : Int) ≤ W ∨ (L.length : Int) < 2 := by rw [zt]; omega
 clear h1
 generalize L.length = n at *
 by_cases hA : (st.size : Int) ≤ W
 · go_wp2
   go_ret
   rw [HST.out]
   exact lns_one HW.out _
 · have h2 : (n : Int) < 2 := by omega
   go_wp2
   go_ret
   rw [HST.out]
   exact lns_one HW.out _
/-- The objects of L lie in the row at g. -/
def AllAt (w : World) (L : List Ob) (g : Nat) : Prop := ∀ (i : Nat) (x : Ob), L[i]? = some x → ∃ p, Hd w x p ∧ CAt w x g (i * 7) p
theorem AllAt.below {w w' : World} {L : List Ob} {g : Nat} (h : AllAt w L g) (hb : Below w.heap.size w w') : AllAt w' L g := fun i x hx => by
 obtain ⟨p, h1, h2⟩ := h i x hx
 exact ⟨p, h1.below hb, h2.below hb⟩
theorem AllAt.of {w w2 : World} {L : List Ob} {g : Nat} (h : ObsAt w2 (Has w) g 0 L) (hg : g < w2.heap.size) (hs : w.heap.size ≤ w2.heap.size) : AllAt w2 L g := fun i x hx => by
 obtain ⟨hi, rfl⟩ := List.getElem?_eq_some_iff.1 hx
 obtain ⟨p, h1, h2⟩ := ObsAt.get hi h
 refine ⟨p, h1.hd (fun b h => Nat.lt_of_lt_of_le h hs), hg, fun j u hj => ?_⟩
 have := h2 j u hj
 rwa [Nat.zero_add] at this
theorem opn_snoc (F : List (List UInt8)) (z : List UInt8) : opn (F ++ [z]) = opn F ++ [(if F.length = 0 then 40 else 32) :: z] := by
 cases F with
 | nil => rfl
 | cons x r =>
  rw [if_neg (by simp)]
  simp [opn]
theorem linTs_one (W : Int) (y : Tr) : linTs W [y] = linT W y := by simp [linTs]
/-- The lines so far, in a row of their own behind X. -/
structure OwS (X wr : World) (v : Value) (ls : List (List UInt8)) : Prop where
 bel : Below X.heap.size X wr
 own : wr.ownsRow X.heap.size 9 1 v ls.length (strC ls)
/-- The same beside the lines of a part. -/
structure OwT (X W1 wr : World) (v : Value) (ls : List (List UInt8)) (pv : Value) (pl : List (List UInt8)) : Prop extends OwS X wr v ls where
 prt : wr.ownsRow W1.heap.size 9 1 pv pl.length (strC pl)
 ne : ∀ b, pv.ownBlock = some b → v.ownBlock ≠ some b
theorem OwS.keep {X wr w' : World} {v : Value} {ls : List (List UInt8)} (h : OwS X wr v ls) (hb : Below wr.heap.size wr w') : OwS X w' v ls :=
 ⟨chain2 h.bel hb (Nat.le_refl _), own_keep h.own fun k hk => hb.block k (own_lt h.own k hk).2⟩
theorem OwS.part {X wr w' : World} {v pv : Value} {ls pl : List (List UInt8)} (h : OwS X wr v ls) (hp : LnsV wr w' pv pl) (hb : Below wr.heap.size wr w') : OwT X wr w' v ls pv pl :=
 ⟨h.keep hb, hp, fun b h1 h2 => by
  have := (own_lt hp b h1).1
  have := (own_lt h.own b h2).2
  omega⟩
theorem OwT.step {X W1 wr w3 w4 : World} {v v' pv : Value} {ls pl : List (List UInt8)} {z : List UInt8} (h : OwT X W1 wr v ls pv pl) (hb : Below wr.heap.size wr w3)
 (h4 : w4.ownsRow X.heap.size 9 1 v' (ls.length + 1) (strC ls ++ [.string (BA z)])) (hg : w3.grownBy w4 v.ownBlock) (hat : v'.ownBlock = v.ownBlock ∨ v'.ownBlock = some w3.heap.size) : OwT X W1 w4 v' (ls ++ [z]) pv pl := by
 have hs3 := hb.size
 have hown := own_lt h.own
 have hX := h.bel.size
 refine ⟨⟨?_, ?_⟩, own_keep h.prt fun k hk => ?_, fun b h1 h2 => ?_⟩
 · exact (chain2 h.bel hb (Nat.le_refl _)).grown hg (by omega) (fun k hk => (hown k hk).1)
 · rw [List.length_append, strC_app]
   exact h4
 · exact (hg.block k (by have := (own_lt h.prt k hk).2; omega) (fun e => h.ne k hk e.symm)).trans (hb.block k (own_lt h.prt k hk).2)
 · rcases hat with h0 | h0
   · exact h.ne b h1 (h0.symm.trans h2)
   · rw [h0] at h2
     have e : w3.heap.size = b := by injection h2
     have := (own_lt h.prt b h1).2
     omega
theorem own_shapeN {w : World} {B : Nat} {e : TypeId} {size n : Nat} {v : Value} {xs : List Value} (h : w.ownsRow B e size v n xs) : ∃ A c, v = .slice A n c := by
 rcases h.2 with ⟨rfl, h0⟩ | ⟨r, cap, cur, rfl, _⟩
 · exact ⟨none, 0, by rw [h0]⟩
 · exact ⟨_, _, rfl⟩
theorem own_last {w : World} {B : Nat} {v : Value} {L : List (List UInt8)} {y : List UInt8} (h : w.ownsRow B 9 1 v (L ++ [y]).length (strC (L ++ [y]))) : ∃ r c, v = .slice (some ⟨r, 0, none⟩) (L.length + 1) c ∧ c ≤ maxLen ∧ w.cell? ⟨r, L.length, none⟩ = some (.string (BA y)) ∧ B ≤ r ∧ r < w.heap.size ∧ w.frozen? ⟨r, L.length, none⟩ = false ∧
 ∀ y', (w.setCell ⟨r, L.length, none⟩ (.string (BA y'))).ownsRow B 9 1 v (L ++ [y']).length (strC (L ++ [y'])) := by
 have hl : (L ++ [y]).length = L.length + 1 := by simp
 have ho := h
 rw [hl] at ho
 obtain ⟨b, c, rfl, h1, h2, h3, h4, h5⟩ := own_cells ho (by omega)
 have hi : (strC (L ++ [y]))[L.length]? = some (.string (BA y)) := by simp [strC]
 refine ⟨b, c, rfl, h2, h5 _ _ hi, h3, h4, ?_, fun y' => ?_⟩
 · obtain ⟨cur, hh⟩ := own_blk ho (g := b) rfl
   simp [World.frozen?, hh]
 · obtain ⟨hlen, hz | ⟨g', cap, cur, e, hbg, hh, hnc, hm, hcs, hcur⟩⟩ := ho
   · exact absurd hz.1 (by simp)
   · injection e with e1 e2 e3
     injection e1 with e1
     injection e1 with e1
     subst e1 e3
     have hl' : (L ++ [y']).length = L.length + 1 := by simp
     rw [hl']
     refine ⟨by simp [strC], .inr ⟨b, c, cur.set! L.length (.string (BA y')), rfl, hbg, ?_, hnc, hm, by simpa using hcs, ?_⟩⟩
     · simp [World.setCell, Array.getElem?_modify, hh]
     · have hlt : L.length < cur.size := by omega
       rw [Nat.mul_one] at hcur ⊢
       simp only [Array.set!_eq_setIfInBounds, Array.toList_setIfInBounds]
       rw [List.take_set, hcur]
       simp [strC]
theorem cons_bytes (c : UInt8) (z : List UInt8) : (⟨#[c]⟩ : ByteArray) ++ BA z = BA (c :: z) := (BA_cons1 c z).symm
theorem linesRB (l : List Sy.Pg) (v : Value) (cur : ByteArray) (o : Ob) (p : Value) (W : Int) (w : World) (hv : Sy.PgV w l v) (hp : Hd w o p) (hz : (prO (nmU l cur) o).length ≤ 100000000) (ct : TxC l v cur o) (L : List Ob) (hn2 : 2 ≤ L.length) (hA : ¬ ((prO (nmU l cur) o).length : Int) ≤ W) (hWl : -1000000 ≤ W - (o.nodes : Int)) (hWh : W ≤ 9223372036854775807) (hsz : szTs (L.map (trO (nmU l cur))) ≤ 3000) (hels : ∀ y ∈ L.map (trO (nmU l cur)), ∃ sp, Sg (prO (nmU l cur) o) sp y)
 (cl : ∀ x ∈ L, LnC l v cur x) (hnod : ∀ x ∈ L, x.nodes + 1 ≤ o.nodes)
 (ci : ∀ X, Below w.heap.size w X → Calls Tryz.prog 90 #[vO o p] X (RetJo X (Has w) (some L))) (cq : ∀ X, Below w.heap.size w X → Calls Tryz.prog 86 #[vO o p] X (RetQU w X none)) :
 Calls Tryz.prog 56 #[v, .string cur, vO o p, .int .i64 W] w (RetLs w (clo (opn (linTs (W - 1) (L.map (trO (nmU l cur))))))) := by
 have CT := qh9 ct
 have CI := qh9 ci
 have CQ := qh9 cq
 have HV := qh9 hv
 have HP := qh9 hp
 have zt : (BA (prO (nmU l cur) o)).size = (prO (nmU l cur) o).length := BA_size _
 have HBD := qh9 (linTs_bd (prO (nmU l cur) o) (W - 1) (L.map (trO (nmU l cur))) hels)
 have HCL := qh9 cl
 have HNOD := qh9 hnod
 obtain ⟨T, hT⟩ : ∃ T, L.map (trO (nmU l cur)) = T := ⟨_, rfl⟩
 rw [hT] at HBD hsz ⊢
 have hTL : T.length = L.length := by rw [← hT]; simp
 have HT := qh9 hT
 have hA' : ¬ ((BA (prO (nmU l cur) o)).size : Int) ≤ W := by rw [zt]; exact hA
 have hL3 : L.length ≤ 3000 := by have := szTs_len T; omega
 have hnd : 0 ≤ (o.nodes : Int) := by omega
 have hW1 : IntKind.i64.wrap (W - 1) = W - 1 := IntWalk.i64_in _ (by omega)
 clear cl hnod hels hT hA
 clear ct ci cq hv hp
 obtain ⟨a0, a1, a2, a3, a4, a5, ea⟩ := cells7 o p
 have T := Bx1.new w #[a0, a1, a2, a3, a4, a5, p]
 rw [vO_cells ea]
 go_enter Tryz.func56, Tryz.ntmps56
 go_upto_region 1 with fail
 generalize w.alloc (.cells #[a0, a1, a2, a3, a4, a5, p] 39) = W1 at T ⊢
 have B0 : Hid (Bx W1 (w.heap.size) (cellsO o p).toArray) := by rw [ea]; exact T.b0
 have HW := qh9 T.bel
 clear T ea
 go_wp2_with (first | ((with_reducible refine loadB (.tmp 6) ?_ ?_ ?_ B0.out ?_); rfl; rfl; rfl))
 with_reducible refine (CT.out.go _ p (HV.out.keep HW.out) (HP.out.below HW.out)).mono ?_
 rintro e w1 ⟨rfl, hb⟩
 replace B0 := qh9 (B0.out.keep hb)
 replace HW := qc9 HW hb
 clear hb CT
 obtain ⟨st, hst⟩ : ∃ st, BA (prO (nmU l cur) o) = st := ⟨_, rfl⟩
 have HST := qh9 hst.symm
 rw [hst] at zt hA' ⊢
 clear hst
 go_wp2_with (first | ((with_reducible refine loadB (.tmp 6) ?_ ?_ ?_ B0.out ?_); rfl; rfl; rfl))
 with_reducible refine (CI.out _ HW.out).mono ?_
 rintro e w2 ⟨hb, A, c, rfl, hc, hat⟩
 replace B0 := qh9 (B0.out.keep hb)
 replace HW := qc9 HW hb
 obtain ⟨g, rfl, hat2, hg1, hg2⟩ := hat (by omega)
 have HAT := qh9 (AllAt.of hat2 hg2 (Nat.le_trans HW.out.size (Nat.le_refl _)))
 clear hb CI hat hat2 hg1 hg2
 go_wp2_with (first | ((with_reducible refine loadB (.tmp 6) ?_ ?_ ?_ B0.out ?_); rfl; rfl; rfl))
 with_reducible refine (CQ.out _ HW.out).mono ?_
 rintro e w3 ⟨rfl, hb⟩
 replace HW := qc9 HW hb
 replace HAT := qh9 (HAT.out.below hb)
 clear hb CQ B0
 have T1 := qh9 (aO_new w3 #[.int .i64 0, .string ⟨#[]⟩, .string ⟨#[]⟩, .string ⟨#[]⟩, .string ⟨#[]⟩, .string ⟨#[]⟩, .slice none 0 0])
 unfold aO at T1
 have hb2 : Below w3.heap.size w3 (World.setRow (w3.alloc (.cells #[.int .i64 0, .string ⟨#[]⟩, .string ⟨#[]⟩, .string ⟨#[]⟩, .string ⟨#[]⟩, .string ⟨#[]⟩, .slice none 0 0] 39)) w3.heap.size zeroC) := below_setRowO (aO_below w3 _) (Nat.le_refl _) _
 replace HW := qc9 HW hb2
 replace HAT := qh9 (HAT.out.below hb2)
 clear hb2
 go_upto_region 4 with ((with_reducible refine storeZU (g := w3.heap.size) (.tmp 12) (.tmp 30) ?_ ?_ ?_ ?_ T1.out ?_); rfl; rfl; rfl; rfl; generalize World.setRow (w3.alloc (.cells #[.int .i64 0, .string ⟨#[]⟩, .string ⟨#[]⟩, .string ⟨#[]⟩, .string ⟨#[]⟩, .string ⟨#[]⟩, .slice none 0 0] 39)) w3.heap.size zeroC = X1 at HW HAT ⊢; clear T1)
 obtain ⟨n, hn⟩ : ∃ n, L.length = n := ⟨_, rfl⟩
 have HN := qh9 hn
 rw [hn] at hn2 hL3 hc hTL ⊢
 have hn3 : ¬ (n : Int) < 2 := by omega
 have HTL := qh9 hTL
 have H0 : Hid (OwS X1 X1 (.slice none 0 0) (opn (linTs (W - 1) (T.take 0)))) := qh9 ⟨Below.refl _ _, by rw [List.take_zero]; exact ⟨by simp [linTs, opn, strC], .inl ⟨rfl, by simp [linTs, opn]⟩⟩⟩
 clear hn hTL
 go_wp2_with fail
 go_loopw [14, 15] (fun ov iv wr => ∃ (i : Nat), i ≤ n ∧ iv = .int .i64 (i : Int) ∧ Hid (OwS X1 wr ov (opn (linTs (W - 1) (T.take i))))) (fun _ iv _ => n - (intOf iv).toNat)
 case atStart => exact ⟨0, Nat.zero_le _, rfl, H0⟩
 case round =>
  clear H0
  obtain ⟨i, hi, rfl, HB⟩ := hrel
  obtain ⟨wo, rfl⟩ : ∃ wo : World, wo = wr := ⟨_, rfl⟩
  by_cases hik : i < n
  · have hik2 : (i : Int) < (n : Int) := by omega
    obtain ⟨x, hx⟩ : ∃ x, L[i]? = some x := ⟨_, List.getElem?_eq_getElem (by rw [HN.out]; exact hik)⟩
    have hxT : T[i]? = some (trO (nmU l cur) x) := by rw [← HT.out, List.getElem?_map, hx]; rfl
    have hmem : x ∈ L := List.mem_of_getElem? hx
    obtain ⟨q, hq1, hq2⟩ := (HAT.out.below HB.out.bel) i x hx
    have HX := qh9 hq2
    have HQ := qh9 hq1
    have CX := qh9 (HCL.out x hmem)
    have hnx := HNOD.out x hmem
    have HV1 := qh9 (HV.out.keep (chain2 HW.out HB.out.bel (Nat.le_refl _)))
    have hz1 := szTs_get hxT
    have hz2 := linTs_len (W - 1) (T.take i)
    have hz3 := linT_len (W - 1) (trO (nmU l cur) x)
    have hsuc : linTs (W - 1) (T.take (i + 1)) = linTs (W - 1) (T.take i) ++ linT (W - 1) (trO (nmU l cur) x) := by
     obtain ⟨hi', e⟩ := List.getElem?_eq_some_iff.1 hxT
     rw [List.take_succ_eq_append_getElem hi', linTs_app, e]
     rw [linTs_one]
    have HSUC := qh9 hsuc
    have HMB : Hid (∀ z ∈ linT (W - 1) (trO (nmU l cur) x), z.length ≤ (prO (nmU l cur) o).length + 2 * szTs T) := qh9 fun z hz => HBD.out z (by
     have e : linTs (W - 1) T = linTs (W - 1) (T.take (i + 1)) ++ linTs (W - 1) (T.drop (i + 1)) := by rw [← linTs_app, List.take_append_drop]
     rw [e, HSUC.out]
     simp [hz])
    generalize linTs (W - 1) (T.take i) = F at HB HSUC hz2 ⊢
    have hlo : -1000000 ≤ (W - 1) - (x.nodes : Int) := by omega
    have hhi : W - 1 ≤ 9223372036854775807 := by omega
    clear hx hxT hmem hq1 hq2 hsuc
    obtain ⟨Ao, co, rfl⟩ := own_shapeN HB.out.own
    go_wp2_with ((with_reducible refine loadCU ?_ ?_ HX.out ?_); exact ⟨_, rfl, rfl⟩; rfl)
    with_reducible refine (CX.out.go _ q (W - 1) HV1.out HQ.out hlo hhi).mono ?_
    rintro e wc ⟨pv, rfl, hpv, hb⟩
    generalize linT (W - 1) (trO (nmU l cur) x) = P at hpv hz3 HSUC HMB ⊢
    have HP0 := qh9 (HB.out.part hpv hb)
    obtain ⟨m, hm⟩ : ∃ m, P.length = m := ⟨_, rfl⟩
    have HM := qh9 hm
    obtain ⟨Ap, cp, rfl⟩ := own_shapeN hpv
    rw [hm] at hz3
    have hm3 : m ≤ 3000 := by omega
    have hfm : F.length + m ≤ 3000 := by omega
    rw [hm] at HP0 ⊢
    clear hpv hb hm HB CX HX HQ HV1
    go_wp2_with fail
    go_loopw [14, 17] (fun ov kv wk => ∃ (k : Nat), k ≤ m ∧ kv = .int .i64 (k : Int) ∧ Hid (OwT X1 wo wk ov (opn (F ++ P.take k)) (.slice Ap m cp) P)) (fun _ kv _ => m - (intOf kv).toNat)
    case atStart => exact ⟨0, Nat.zero_le _, rfl, by rw [List.take_zero, List.append_nil]; exact HP0⟩
    case round =>
     clear HP0
     obtain ⟨k, hk, rfl, HB⟩ := hrel
     by_cases hkm : k < m
     · have hkm2 : (k : Int) < (m : Int) := by omega
       obtain ⟨z, hz⟩ : ∃ z, P[k]? = some z := ⟨_, List.getElem?_eq_getElem (by rw [HM.out]; exact hkm)⟩
       have hzl := HMB.out z (List.mem_of_getElem? hz)
       have hprt := HB.out.prt
       rw [HM.out] at hprt
       obtain ⟨bp, cp2, e1, _, _, _, hbl, hcell⟩ := own_cells hprt (by omega)
       injection e1 with e1 e2 e3
       subst e1 e3
       have hpc : wr.cell? ⟨bp, k, none⟩ = some (.string (BA z)) := hcell k _ (by simp [strC, hz])
       have htk : P.take (k + 1) = P.take k ++ [z] := by
        obtain ⟨hk', e⟩ := List.getElem?_eq_some_iff.1 hz
        rw [List.take_succ_eq_append_getElem hk', e]
       have hlen : (F ++ P.take k).length = F.length + k := by
        rw [List.length_append, List.length_take, HM.out]
        omega
       have hsn := opn_snoc (F ++ P.take k) z
       rw [List.append_assoc, ← htk, hlen] at hsn
       obtain ⟨Ao, co, rfl⟩ := own_shapeN HB.out.own
       have hol : (opn (F ++ P.take k)).length = F.length + k := by rw [opn_len, hlen]
       have hOW := HB.out.own
       rw [hol] at hOW HB ⊢
       obtain ⟨N, hN⟩ : ∃ N, F.length + k = N := ⟨_, rfl⟩
       rw [hN] at hOW HB hsn ⊢
       have hN3 : N ≤ 3000 := by omega
       have hs3 : X1.heap.size ≤ wr.heap.size := HB.out.bel.size
       have own3 : Hid (∀ y : ByteArray, (wr.alloc (.cells #[.string y] 9)).ownsRow X1.heap.size 9 1 (.slice Ao N co) N (strC (opn (F ++ P.take k)))) := fun y => own_keep hOW fun b hb => (below_al wr (.cells #[.string y] 9)).block b (own_lt hOW b hb).2
       have hol2 : (opn (F ++ P.take k)).length = N := by rw [hol, hN]
       have HSTP : Hid (∀ (ch : UInt8), ch = (if N = 0 then 40 else 32) → ∀ v4 w4, w4.ownsRow X1.heap.size 9 1 v4 (N + 1) (strC (opn (F ++ P.take k)) ++ [.string (⟨#[ch]⟩ ++ BA z)]) → (wr.alloc (.cells #[.string (⟨#[ch]⟩ ++ BA z)] 9)).grownBy w4 (Value.slice Ao N co).ownBlock →
        (v4.ownBlock = (Value.slice Ao N co).ownBlock ∨ v4.ownBlock = some (wr.alloc (.cells #[.string (⟨#[ch]⟩ ++ BA z)] 9)).heap.size) → OwT X1 wo w4 v4 (opn (F ++ P.take (k + 1))) (.slice (some ⟨bp, 0, none⟩) m cp) P) := qh9 fun ch hch v4 w4 h4 hg hat => by
        rw [hsn, ← hch]
        exact HB.out.step (below_al wr _) (by rw [hol2, ← cons_bytes]; exact h4) hg hat
       have HNEWS : Hid (∀ y : ByteArray, ∀ j u, [Value.string y][j]? = some u → (wr.alloc (.cells #[.string y] 9)).cell? ((⟨wr.heap.size, 0, none⟩ : Addr).add j) = some u) := fun y => cell_one_new _ _ _
       have HONE : Hid (∀ y : ByteArray, ∀ u ∈ [Value.string y], u.oneCell' = true) := fun y u hu => by
        rw [List.mem_singleton] at hu
        subst hu
        rfl
       have hs4 : ∀ y : ByteArray, X1.heap.size ≤ (wr.alloc (.cells #[.string y] 9)).heap.size := fun y => by
        simp only [World.size_alloc]
        omega
       have HS4 := qh9 hs4
       have zz : (BA z).size = z.length := BA_size z
       obtain ⟨i0, hi0, hz0, hz1, hz2⟩ := infoSt
       have HI0 := qh9 hi0
       have HZ0 := qh9 hz0
       have HZ1 := qh9 hz1
       have HZ2 := qh9 hz2
       have hzs : 1 + (BA z).size ≤ 9223372036854775807 := by omega
       have hbl2 : bp < wr.heap.size := hbl
       generalize strC (opn (F ++ P.take k)) = OC at own3 HSTP
       generalize BA z = sz at hpc HSTP hzs zz ⊢
       clear hi0 hz0 hz1 hz2 hsn htk hlen hol hol2 hOW HB hN hprt hcell hz hzl hs4 zz
       by_cases hN0 : N = 0
       · have hN1 : (N : Int) = 0 := by omega
         have hch : (40 : UInt8) = (if N = 0 then 40 else 32) := by rw [if_pos hN0]
         have HCH := qh9 hch
         clear hch
         go_wp2_with (at_builtin; refine wpList_append_own_at _ rfl (.tmp 74) (.tmp 80) _ rfl X1.heap.size 9 i0 _ 1 16 Tryz.underlying42 HI0.out HZ0.out HZ1.out HZ2.out rfl (by omega) (.slice Ao N co) N OC rfl (own3.out _) ⟨wr.heap.size, 0, none⟩ 1 1 [.string (⟨#[40]⟩ ++ sz)] rfl rfl (HNEWS.out _) (HONE.out _) (by simp only [maxLen]; omega) (by omega) (HS4.out _) ?_; intro v4 w4 hown4 hg4 hnil4 hat4; have HF := qh9 (HSTP.out 40 HCH.out v4 w4 hown4 hg4 hat4); clear hown4 hg4 hnil4 hat4)
         go_roundw
         case rel => exact ⟨k + 1, by omega, by go_num, HF⟩
         case measure => simp [intOf]; omega
       · have hN1 : ¬ (N : Int) = 0 := by omega
         have hch : (32 : UInt8) = (if N = 0 then 40 else 32) := by rw [if_neg hN0]
         have HCH := qh9 hch
         clear hch
         go_wp2_with (at_builtin; refine wpList_append_own_at _ rfl (.tmp 82) (.tmp 88) _ rfl X1.heap.size 9 i0 _ 1 16 Tryz.underlying42 HI0.out HZ0.out HZ1.out HZ2.out rfl (by omega) (.slice Ao N co) N OC rfl (own3.out _) ⟨wr.heap.size, 0, none⟩ 1 1 [.string (⟨#[32]⟩ ++ sz)] rfl rfl (HNEWS.out _) (HONE.out _) (by simp only [maxLen]; omega) (by omega) (HS4.out _) ?_; intro v4 w4 hown4 hg4 hnil4 hat4; have HF := qh9 (HSTP.out 32 HCH.out v4 w4 hown4 hg4 hat4); clear hown4 hg4 hnil4 hat4)
         go_roundw
         case rel => exact ⟨k + 1, by omega, by go_num, HF⟩
         case measure => simp [intOf]; omega
     · have hkm2 : ¬ (k : Int) < (m : Int) := by omega
       have e : P.take k = P := List.take_of_length_le (by rw [HM.out]; omega)
       rw [e] at HB
       go_wp2_with fail
       go_roundw
       case rel => exact ⟨i + 1, by omega, by go_num, by rw [HSUC.out]; exact qh9 HB.out.toOwS⟩
       case measure => simp [intOf]; omega
  · have hik2 : ¬ (i : Int) < (n : Int) := by omega
    have e : T.take i = T := List.take_of_length_le (by rw [HTL.out]; omega)
    rw [e] at HB
    have hne : opn (linTs (W - 1) T) ≠ [] := by
     refine opn_ne (linTs_ne (W - 1) T fun e0 => ?_)
     have := HTL.out
     rw [e0] at this
     simp only [List.length_nil] at this
     omega
    obtain ⟨A, z, eA, eC⟩ := clo_last _ hne
    have EC := qh9 eC
    have hbd := opn_bd _ HBD.out
    have hzl := hbd z (by rw [eA]; simp)
    have hlen := linTs_len (W - 1) T
    have hol : (opn (linTs (W - 1) T)).length = (linTs (W - 1) T).length := opn_len _
    rw [eA] at HB hol
    have hBo := HB.out.own
    obtain ⟨r, c', rfl, hc', hcell, hrg, hrl, hfr, hst⟩ := own_last hBo
    obtain ⟨M, hM⟩ : ∃ M, A.length = M := ⟨_, rfl⟩
    rw [List.length_append, hM] at hol
    simp only [List.length_cons, List.length_nil] at hol
    have hst1 := hst (z ++ [41])
    rw [BA_app3 z [41]] at hst1
    rw [hM] at hst1 hcell hfr ⊢
    obtain ⟨N, hN⟩ : ∃ N, M + 1 = N := ⟨_, rfl⟩
    rw [hN] at hst1 ⊢
    have hN1 : (N : Int) - 1 = (M : Int) := by omega
    have hM3 : (M : Int) < (N : Int) := by omega
    have hM4 : (0 : Int) ≤ (M : Int) := by omega
    have hM5 : M < N := by omega
    have hz1 : (BA z).size + 1 ≤ 9223372036854775807 := by
     rw [BA_size z]
     omega
    have hwM : IntKind.i64.wrap (M : Int) = (M : Int) := IntWalk.i64_in _ (by omega)
    have hs1 : w.heap.size ≤ X1.heap.size := HW.out.size
    have HFIN : Hid (RetLs w (A ++ [z ++ [41]]) (.returned (.slice (some ⟨r, 0, none⟩) N c')) (wo.setCell ⟨r, M, none⟩ (.string (BA z ++ ⟨#[41]⟩)))) :=
     ⟨_, rfl, own_baseU hst1 hs1, (chain2 HW.out HB.out.bel (Nat.le_refl _)).setCell (p := ⟨r, M, none⟩) (show w.heap.size ≤ r by omega) _⟩
    clear e hne eA eC hbd hzl hlen hol hBo hst hst1 hN HB hM
    go_wp2_with fail
    go_ret
    rw [EC.out]
    exact HFIN.out
theorem items_mem : ∀ (o : Ob) (L : List Ob), o.items = some L → L.length ≤ o.nodes ∧ ∀ x ∈ L, x.nodes + 1 ≤ o.nodes ∧ (∀ k, o.bd k → x.bd k) ∧ ∀ l, homeO l o = true → homeO l x = true
 | .cons a d, L, h => by
  have e2 : (Ob.cons a d).items = d.items.map (a :: ·) := rfl
  have hn : (Ob.cons a d).nodes = 1 + a.nodes + d.nodes := rfl
  rw [e2] at h
  cases hd : d.items with
  | none => rw [hd] at h; cases h
  | some L' =>
   rw [hd] at h
   have hL : a :: L' = L := by simpa using h
   subst hL
   obtain ⟨h1, h2⟩ := items_mem d L' hd
   have hp := d.nodes_pos
   refine ⟨by simp only [List.length_cons]; omega, fun x hx => ?_⟩
   rcases List.mem_cons.1 hx with rfl | hx
   · refine ⟨by omega, fun k hb => hb.1, fun l hh => ?_⟩
     unfold homeO at hh
     rw [Bool.and_eq_true] at hh
     exact hh.1
   · obtain ⟨g1, g2, g3⟩ := h2 x hx
     refine ⟨by omega, fun k hb => g2 k hb.2, fun l hh => g3 l ?_⟩
     unfold homeO at hh
     rw [Bool.and_eq_true] at hh
     exact hh.2
 | .num q, L, h => by simp [Ob.items, Ob.nil] at h
 | .str q, L, h => by simp [Ob.items, Ob.nil] at h
 | .sym p n, L, h => by
  by_cases e : Ob.sym p n = .nil
  · have hL : L = [] := by
     rw [e] at h
     have e2 : Ob.nil.items = some [] := rfl
     rw [e2] at h
     exact (Option.some.inj h).symm
    subst hL
    exact ⟨Nat.zero_le _, fun x hx => by simp at hx⟩
  · simp [Ob.items, e] at h
theorem linesR6 (l : List Sy.Pg) (v : Value) (cur : ByteArray) (hl : l.length ≤ 1000000) (hi : ∀ q ∈ l, q.2.length ≤ 1000000) (hf : (Sy.findM l cur).isSome = true) (k : Nat) (hk : k ≤ 900) :
 ∀ (m : Nat) (a : Ob), a.nodes ≤ m → a.nodes ≤ 3000 → a.bd k → homeO l a = true → LnC l v cur a := by
 intro m
 induction m with
 | zero => intro a h; have := a.nodes_pos; omega
 | succ m ih =>
  intro a ha hn hb hh X q W hv hp hlo hhi
  have ct := textR6 l v cur hl hi hf k hk _ a (Nat.le_refl _) hn hb hh
  have hz := (prO_len (k := k) (c := 4 * k + 100) (nm := nmU l cur) (Nat.le_refl _) (nmU_len88 l cur) 3000 a hn hb).1
  have hz2 : (prO (nmU l cur) a).length ≤ 100000000 := by
   have h1 : (4 * k + 100) * a.nodes ≤ 4000 * 3000 := Nat.mul_le_mul (by omega) hn
   omega
  have ci : ∀ Y, Below X.heap.size X Y → Calls Tryz.prog 90 #[vO a q] Y (RetJo Y (Has X) a.items) := fun Y h => itemsRo a q Y (Has X) (fun b hb => Nat.lt_of_lt_of_le hb h.size) (hp.keep (fun b h => h) (fun b hb => h.block b hb)) (by omega)
  have cq : ∀ Y, Below X.heap.size X Y → Calls Tryz.prog 86 #[vO a q] Y (RetQU X Y (qO a)) := fun Y h => quotedRo _ q X Y h hp hn
  cases hit : a.items with
  | none =>
   have hq : qO a = none := by unfold qO; rw [hit]
   rw [hit] at ci
   rw [hq] at cq
   rw [lin_one (nmU l cur) (.inr (by rw [tr_none _ hit]; simp))]
   exact linesRN l v cur a q W X hv hp hz2 ct ci cq
  | some L =>
   have hL := items_mem a L hit
   have hts := tr_some (nmU l cur) hit
   rw [hit] at ci
   cases hq : qO a with
   | some x =>
    rw [hq] at cq hts
    rw [lin_one (nmU l cur) (.inr (by rw [hts]; simp))]
    exact linesRQ l v cur a q W X hv hp hz2 ct L x (by have := hL.1; omega) ci cq
   | none =>
    rw [hq] at cq hts
    have hts' : (trO (nmU l cur) a).l = L.map (trO (nmU l cur)) := by rw [hts]; simp
    by_cases h1 : ((prO (nmU l cur) a).length : Int) ≤ W ∨ L.length < 2
    · rw [lin_one (nmU l cur) (by rw [hts']; simpa using h1)]
      exact linesR1 l v cur a q W X hv hp hz2 ct L (by have := hL.1; omega) h1 ci cq
    · rw [lin_many (nmU l cur) (by rw [hts']; simpa using h1), hts']
      have hsz := szT_trO (nmU l cur) a
      rw [tr_eq (nmU l cur) a, hts'] at hsz
      have e0 : ∀ t l', szT (.mk t l') = 1 + szTs l' := fun t l' => by rw [szT]
      rw [e0] at hsz
      have hsg := sg_ob (nmU l cur) (prO (nmU l cur) a) a [] [] (by simp)
      rw [tr_eq (nmU l cur) a, hts'] at hsg
      have hels : ∀ y ∈ L.map (trO (nmU l cur)), ∃ sp, Sg (prO (nmU l cur) a) sp y := by
       generalize spU (nmU l cur) ([] : List UInt8).length a = sp at hsg
       obtain ⟨s, e, mm⟩ := sp
       exact hsg.els
      exact linesRB l v cur a q W X hv hp hz2 ct L (by omega) (by omega) hlo hhi (by omega) hels (fun x hx => ih x (by have := (hL.2 x hx).1; omega) (by have := (hL.2 x hx).1; omega) ((hL.2 x hx).2.1 k hb) ((hL.2 x hx).2.2 l hh)) (fun x hx => (hL.2 x hx).1) ci cq
theorem chk_zero {l : List Sy.Pg} {cur : ByteArray} {o : Ob} {b : Bool} (h : chkV l cur o b = 0) : (Sy.findM l cur).isSome = true ∧ homeO l o = true := by
 unfold chkV at h
 split at h
 · split at h
   · rename_i _ h2
     rw [Bool.and_eq_true] at h2
     exact h2
   · exact absurd h (by decide)
 · exact absurd h (by decide)
theorem linesTopR (l : List Sy.Pg) (v : Value) (cur : ByteArray) (o : Ob) (p : Value) (b : Bool) (W : Int) (w : World) (hv : Sy.PgV w l v) (hl : l.length ≤ 1000000) (hi : ∀ q ∈ l, q.2.length ≤ 1000000) (h : Hd w o p) (k : Nat) (hk : k ≤ 900) (hbd : o.bd k) (hn : o.nodes ≤ 3000) (hW : -9223372036854775808 ≤ W) (hW' : W ≤ 9223372036854775807)
 (hV : ∀ X, Below w.heap.size w X → Calls Tryz.prog 52 #[vO o p] X (RetB X b)) :
 Calls Tryz.prog 21 #[v, .string cur, vO o p, .int .i64 W] w (RetLn w (lnV l cur o b W).1 (lnV l cur o b W).2) := by
 have CP : Hid (∀ X, Below w.heap.size w X → Calls Tryz.prog 19 #[v, .string cur, vO o p] X (RetTE X (prV l cur o b).1 (prV l cur o b).2)) := fun X hX => printR6 l v cur o p b X (hv.keep hX) hl hi (h.below hX) k hk hbd hn (fun Y hY => hV Y (hX.trans (hY.mono hX.size)))
 have CL : Hid (chkV l cur o b = 0 → ∀ X, Below w.heap.size w X → Calls Tryz.prog 56 #[v, .string cur, vO o p, .int .i64 (max W (-1000))] X (RetLs X (linT W (trO (nmU l cur) o)))) := fun hc X hX => by
  have h0 := chk_zero hc
  have := (linesR6 l v cur hl hi h0.1 k hk _ o (Nat.le_refl _) hn hbd h0.2).go X p (max W (-1000)) (hv.keep hX) (h.below hX) (by omega) (by omega)
  rwa [linT_max] at this
 have hcc := chk_cases l cur o b
 unfold lnV
 unfold prV at CP
 generalize chkV l cur o b = c at CP CL hcc ⊢
 generalize linT W (trO (nmU l cur) o) = LS at CL ⊢
 obtain ⟨V, hV2⟩ : ∃ V : List (List UInt8) × Int, (if c = 0 then (LS, (0 : Int)) else ([], c)) = V := ⟨_, rfl⟩
 rw [hV2]
 have HV := qh9 hV2
 obtain ⟨Vs, Vn⟩ := V
 obtain ⟨U, hU⟩ : ∃ U : ByteArray × Int, (if c = 0 then (BA (prO (nmU l cur) o), (0 : Int)) else (⟨#[]⟩, c)) = U := ⟨_, rfl⟩
 rw [hU] at CP
 have hU2 : U.2 = c := by
  rw [← hU]
  split
  · rename_i h0; exact h0.symm
  · rfl
 rw [hU2] at CP
 obtain ⟨Us, Un⟩ := U
 replace CP : Hid (∀ X, Below w.heap.size w X → Calls Tryz.prog 19 #[v, .string cur, vO o p] X (RetTE X Us c)) := CP.out
 clear hv hl hi h hbd hn hV hV2 hU hU2
 obtain ⟨a0, a1, a2, a3, a4, a5, ea⟩ := cells7 o p
 have T := Bx1.new w #[a0, a1, a2, a3, a4, a5, p]
 rw [vO_cells ea]
 go_enter Tryz.func21, Tryz.ntmps21
 go_upto_region 1 with fail
 generalize w.alloc (.cells #[a0, a1, a2, a3, a4, a5, p] 39) = W1 at T ⊢
 have B0 : Hid (Bx W1 (w.heap.size) (cellsO o p).toArray) := by rw [ea]; exact T.b0
 have HW := qh9 T.bel
 clear T ea
 go_wp2_with (first | ((with_reducible refine loadB (.tmp 6) ?_ ?_ ?_ B0.out ?_); rfl; rfl; rfl))
 with_reducible refine (CP.out _ HW.out).mono ?_
 rintro e w1 ⟨rfl, hb⟩
 replace B0 := qh9 (B0.out.keep hb)
 replace HW := qc9 HW hb
 clear hb CP
 rcases hcc with rfl | rfl | rfl
 · have hx := Prod.mk.inj HV.out
   obtain ⟨hx1, hx2⟩ := hx
   subst hx1 hx2
   clear HV
   have CL0 := qh9 (CL.out rfl)
   clear CL
   go_wp2_with (first | ((with_reducible refine loadB (.tmp 6) ?_ ?_ ?_ B0.out ?_); rfl; rfl; rfl))
   with_reducible refine (CL0.out _ HW.out).mono ?_
   rintro e w2 ⟨v2, rfl, hv2, hb⟩
   have HF := qc9 HW hb
   have HV2 := qh9 hv2
   have hs := HW.out.size
   clear hb hv2
   go_wp2
   go_ret2
   exact ⟨_, rfl, own_baseU HV2.out hs, HF.out⟩
 · have hx := Prod.mk.inj HV.out
   obtain ⟨hx1, hx2⟩ := hx
   subst hx1 hx2
   clear HV CL
   go_wp2
   go_ret2
   exact ⟨_, rfl, ⟨rfl, .inl ⟨rfl, rfl⟩⟩, HW.out⟩
 · have hx := Prod.mk.inj HV.out
   obtain ⟨hx1, hx2⟩ := hx
   subst hx1 hx2
   clear HV CL
   go_wp2
   go_ret2
   exact ⟨_, rfl, ⟨rfl, .inl ⟨rfl, rfl⟩⟩, HW.out⟩
theorem linesW (r : Rw) (r0 r1 r2 r3 : Value) (n : Int) (w : World) (hr : RawAt w (Has w) r [r0, r1, r2, r3]) (hT : EscT w) (ht : Tab w) (hn : -9223372036854775808 ≤ n) (hn' : n ≤ 9223372036854775807) :
 Calls Tryz.prog 5 #[.agg #[r0, r1, r2, r3], .int .i64 n] w (RetB w true) := by
 have HT := qh9 hT
 have RR := qh9 hr
 have HTB := qh9 ht
 have CF : Hid (∀ X, Below w.heap.size w X → Calls Tryz.prog 16 #[.agg #[r0, r1, r2, r3], .int .i64 40] X (fun e w' => e = .returned (.bool (few r 40)) ∧ Below X.heap.size X w')) := fun X h => fewO r [r0, r1, r2, r3] 40 X (Has w) (In.has w |>.later h.size) (RR.out.below (In.has w) h) (by decide) (by decide)
 have KO : Hid (few r 40 = true → ∀ X, Below w.heap.size w X → Calls Tryz.prog 17 #[.agg #[r0, r1, r2, r3]] X (RetX X 159)) := fun hf X h => by
  obtain ⟨hok, hcn⟩ := few_ok hf
  exact (objectO r [r0, r1, r2, r3] X (Has w) (In.has w |>.later h.size) (RR.out.below (In.has w) h) hok (HTB.out.below h)).mono fun _ _ hr => hr.le (by omega)
 generalize few r 40 = ff at CF KO
 clear hT hr ht
 go_enter Tryz.func5, Tryz.ntmps5
 go_upto_region 1 with fail
 have hr0 := qh9 (heap_alloc_new w (.cells #[r0, r1, r2, r3] 35))
 have HB := qh9 (below_al w (.cells #[r0, r1, r2, r3] 35))
 generalize w.alloc (.cells #[r0, r1, r2, r3] 35) = W at hr0 HB ⊢
 have BR : Hid (RwB W w.heap.size r0 r1 r2 r3) := hr0.out
 clear hr0
 go_wp2_with fail
 with_reducible refine (first6 W (HT.out.keep HB.out)).mono ?_
 rintro e w1 ⟨rfl, hb⟩
 replace BR := qh9 (BR.out.keep hb)
 replace HB := qc9 HB hb
 clear hb
 obtain ⟨c0, c1, c2, c3⟩ := BR.out.c
 go_wp2_with fail
 with_reducible refine (CF.out _ HB.out).mono ?_
 rintro e w2 ⟨rfl, hb⟩
 replace BR := qh9 (BR.out.keep hb)
 replace HB := qc9 HB hb
 clear hb c0 c1 c2 c3 CF
 cases ff with
 | false =>
  go_wp2
  go_ret
  exact ⟨rfl, HB.out⟩
 | true =>
  obtain ⟨c0, c1, c2, c3⟩ := BR.out.c
  go_wp2_with fail
  with_reducible refine (KO.out (by simp) _ HB.out).mono ?_
  intro e w3 hx
  obtain ⟨o, p, rfl, hp, hb, ok⟩ := RetX.hU hx
  replace HB := qc9 HB hb
  have HP := qh9 hp
  have OK := qh9 ok
  have T1 := qh9 (aO_new w3 #[.int .i64 0, .string ⟨#[]⟩, .string ⟨#[]⟩, .string ⟨#[]⟩, .string ⟨#[]⟩, .string ⟨#[]⟩, .slice none 0 0])
  unfold aO at T1
  clear hp ok hb c0 c1 c2 c3 BR KO RR HTB
  go_upto_region 6 with ((with_reducible refine storeB (w1 := w3) (g := w3.heap.size) (b := o) (p := p) (.tmp 5) (.tmp 17) ?_ ?_ ?_ ?_ HP.out T1.out ?_); rfl; rfl; rfl; rfl; have P := Pt1U.new (w := w3) (o := o) (p := p) (z := #[.int .i64 0, .string ⟨#[]⟩, .string ⟨#[]⟩, .string ⟨#[]⟩, .string ⟨#[]⟩, .string ⟨#[]⟩, .slice none 0 0]); generalize World.setRow (w3.alloc (.cells #[.int .i64 0, .string ⟨#[]⟩, .string ⟨#[]⟩, .string ⟨#[]⟩, .string ⟨#[]⟩, .string ⟨#[]⟩, .slice none 0 0] 39)) w3.heap.size (cellsO o p).toArray = X at P ⊢; replace HB := qh9 (chain2 HB.out P.bel (Nat.le_refl _)); replace HP := qh9 (HP.out.below P.bel); have D0 := qh9 P.b0; clear P T1)
  generalize w3.heap.size = gb at D0 ⊢
  obtain ⟨x0, x1, x2, x3, x4, x5, eo⟩ := cells7 o p
  have BO : Hid (Bx X gb #[x0, x1, x2, x3, x4, x5, p]) := by
   have := D0.out
   rwa [eo] at this
  have EV := qh9 (vO_cells eo)
  have BC : Hid (Bx X gb (cellsO o p).toArray) := D0.out
  clear D0 eo
  obtain ⟨V, hV⟩ : ∃ V, lnV userM ⟨#[117, 115, 101, 114]⟩ o true n = V := ⟨_, rfl⟩
  obtain ⟨LS, Vn⟩ := V
  have CP : Hid (∀ X' y, Below X.heap.size X X' → Sy.PgV X' userM y → Calls Tryz.prog 20 #[y, .string ⟨#[117, 115, 101, 114]⟩, .agg #[x0, x1, x2, x3, x4, x5, p], .int .i64 n] X' (RetLn X' LS Vn)) := fun X' y hX hy => by
   have bd := Ob.bd_more (show 10 ≤ 90 by decide) OK.out.bd
   have := linesP userM y ⟨#[117, 115, 101, 114]⟩ o p true n X' hy (by decide) (by decide) (HT.out.keep (HB.out.trans (hX.mono HB.out.size))) (HP.out.below hX) 90 (by decide) bd (by have := OK.out.nodes; omega) (fun Y hY => validP o p Y (Has Y) bd (by have := OK.out.nodes; omega) (In.has Y) ((HP.out.below hX).below hY))
   rwa [EV.out, hV] at this
  have CR : Hid (∀ X' y, Below X.heap.size X X' → Sy.PgV X' userM y → Calls Tryz.prog 21 #[y, .string ⟨#[117, 115, 101, 114]⟩, .agg #[x0, x1, x2, x3, x4, x5, p], .int .i64 n] X' (RetLn X' LS Vn)) := fun X' y hX hy => by
   have bd := Ob.bd_more (show 10 ≤ 90 by decide) OK.out.bd
   have := linesTopR userM y ⟨#[117, 115, 101, 114]⟩ o p true n X' hy (by decide) (by decide) (HP.out.below hX) 90 (by decide) bd (by have := OK.out.nodes; omega) hn hn' (fun Y hY => valid2R o p Y bd (by have := OK.out.nodes; omega) ((HP.out.below hX).below hY))
   rwa [EV.out, hV] at this
  have hsl : LS.length ≤ 3000 := by
   have e : LS = (lnV userM ⟨#[117, 115, 101, 114]⟩ o true n).1 := by rw [hV]
   rw [e]
   unfold lnV
   split
   · have h1 := linT_len n (trO (nmU userM ⟨#[117, 115, 101, 114]⟩) o)
     have h2 := szT_trO (nmU userM ⟨#[117, 115, 101, 114]⟩) o
     have := OK.out.nodes
     show (linT n _).length ≤ 3000
     omega
   · exact Nat.zero_le _
  clear hV OK
  have D0 := qh9 (BO.out.keep ((Below.refl X.heap.size X).drew))
  obtain ⟨m0, m1, m2, m3, m4, m5, m6⟩ := Bx.c BO.out
  obtain ⟨n0, n1, n2, n3, n4, n5, n6⟩ := Bx.c D0.out
  go_wp2_with fail
  go_region_held3 (fun W' => W'.cell? ⟨gb, 0, none⟩ = some x0 ∧ W'.cell? ⟨gb, 1, none⟩ = some x1 ∧ W'.cell? ⟨gb, 2, none⟩ = some x2 ∧ W'.cell? ⟨gb, 3, none⟩ = some x3 ∧ W'.cell? ⟨gb, 4, none⟩ = some x4 ∧ W'.cell? ⟨gb, 5, none⟩ = some x5 ∧ W'.cell? ⟨gb, 6, none⟩ = some p) (go_keep) ((first | (go_at_call 13; refine (packages6 _).mono ?_; rintro e x0a ⟨y0, rfl, hy, hb⟩; have HY0 := qh9 hy; have HR0 := qh9 ((Below.drew (Below.refl X.heap.size X)).trans hb); obtain ⟨q0, q1, q2, q3, q4, q5, q6⟩ := Bx.c (BO.out.keep HR0.out); clear hy hb) | (go_at_call 20; refine (CP.out x0a y0 HR0.out HY0.out).mono ?_; rintro e W0 ⟨vl0, rfl, hln, hb⟩; have HL0 := qh9 hln; have HG0 := qc9 HR0 hb; obtain ⟨t0, t1, t2, t3, t4, t5, t6⟩ := Bx.c (BO.out.keep HG0.out); clear hb hln)))
  replace BO := qh9 (BO.out.keep HG0.out)
  replace BC := qh9 (BC.out.keep HG0.out)
  replace HP := qh9 (HP.out.below HG0.out)
  replace HB := qh9 (chain2 HB.out HG0.out (Nat.le_refl _))
  try clear m0 m1 m2 m3 m4 m5 m6 n0 n1 n2 n3 n4 n5 n6
  have HC0 := qh9 HG0.out
  have D1 := qh9 (BO.out.keep ((Below.refl W0.heap.size W0).drew))
  obtain ⟨m0, m1, m2, m3, m4, m5, m6⟩ := Bx.c BO.out
  obtain ⟨n0, n1, n2, n3, n4, n5, n6⟩ := Bx.c D1.out
  go_wp2_with fail
  go_region_held3 (fun W' => W'.cell? ⟨gb, 0, none⟩ = some x0 ∧ W'.cell? ⟨gb, 1, none⟩ = some x1 ∧ W'.cell? ⟨gb, 2, none⟩ = some x2 ∧ W'.cell? ⟨gb, 3, none⟩ = some x3 ∧ W'.cell? ⟨gb, 4, none⟩ = some x4 ∧ W'.cell? ⟨gb, 5, none⟩ = some x5 ∧ W'.cell? ⟨gb, 6, none⟩ = some p) (go_keep) ((first | (go_at_call 13; refine (packages6 _).mono ?_; rintro e x1a ⟨y1, rfl, hy, hb⟩; have HY1 := qh9 hy; have HR1 := qh9 ((Below.drew (Below.refl W0.heap.size W0)).trans hb); obtain ⟨q0, q1, q2, q3, q4, q5, q6⟩ := Bx.c (BO.out.keep HR1.out); clear hy hb) | (go_at_call 21; refine (CR.out x1a y1 (chain2 HC0.out HR1.out (Nat.le_refl _)) HY1.out).mono ?_; rintro e W1 ⟨vl1, rfl, hln, hb⟩; have HL1 := qh9 hln; have HG1 := qc9 HR1 hb; obtain ⟨t0, t1, t2, t3, t4, t5, t6⟩ := Bx.c (BO.out.keep HG1.out); clear hb hln)))
  replace BO := qh9 (BO.out.keep HG1.out)
  replace BC := qh9 (BC.out.keep HG1.out)
  replace HP := qh9 (HP.out.below HG1.out)
  replace HB := qh9 (chain2 HB.out HG1.out (Nat.le_refl _))
  try clear m0 m1 m2 m3 m4 m5 m6 n0 n1 n2 n3 n4 n5 n6
  obtain ⟨A0, c0, rfl⟩ := own_shapeN HL0.out
  obtain ⟨A1, c1, rfl⟩ := own_shapeN HL1.out
  have h0 : W1.ownsRow 0 9 1 (.slice A0 LS.length c0) LS.length (strC LS) := own_baseU (own_keep HL0.out fun k hk => HG1.out.block k (own_lt HL0.out k hk).2) (Nat.zero_le _)
  have h1 : W1.ownsRow 0 9 1 (.slice A1 LS.length c1) LS.length (strC LS) := own_baseU HL1.out (Nat.zero_le _)
  have O0 := qh9 h0
  have O1 := qh9 h1
  obtain ⟨N, hN⟩ : ∃ N, LS.length = N := ⟨_, rfl⟩
  have HN := qh9 hN
  rw [hN] at O0 O1 hsl ⊢
  clear hN h0 h1 HL0 HL1 HG0 HG1 HR0 HR1 HY0 HY1 HC0 D0 D1 BO BC HP EV CP CR
  go_wp2_with fail
  go_loopw [10] (fun iv wr => ∃ (i : Nat), i ≤ N ∧ iv = .int .i64 (i : Int) ∧ Hid (Below W1.heap.size W1 wr)) (fun iv _ => N - (intOf iv).toNat)
  case atStart => exact ⟨0, Nat.zero_le _, rfl, Below.refl _ _⟩
  case round =>
   obtain ⟨i, hi, rfl, HI⟩ := hrel
   by_cases hik : i < N
   · have hik2 : (i : Int) < (N : Int) := by omega
     have k0 := own_keep O0.out fun k hk => HI.out.block k (own_lt O0.out k hk).2
     have k1 := own_keep O1.out fun k hk => HI.out.block k (own_lt O1.out k hk).2
     obtain ⟨b0, d0, e0, _, _, _, _, g0⟩ := own_cells k0 (by omega)
     obtain ⟨b1, d1, e1, _, _, _, _, g1⟩ := own_cells k1 (by omega)
     injection e0 with e0 _ e02
     injection e1 with e1 _ e12
     subst e0 e1 e02 e12
     obtain ⟨z, hz⟩ : ∃ z, LS[i]? = some z := ⟨_, List.getElem?_eq_getElem (by rw [HN.out]; exact hik)⟩
     have z0 : wr.cell? ⟨b0, i, none⟩ = some (.string (BA z)) := g0 i _ (by simp [strC, hz])
     have z1 : wr.cell? ⟨b1, i, none⟩ = some (.string (BA z)) := g1 i _ (by simp [strC, hz])
     have hi4 : (0 : Int) ≤ (i : Int) := by omega
     clear g0 g1 k0 k1 hz
     generalize BA z = sz at z0 z1
     go_wp2_with fail
     go_quiet (fail)
     go_wp2_with fail
     go_roundw
     case rel => exact ⟨i + 1, by omega, by go_num, chain2 HI.out (belDN _ _) (Nat.le_refl _)⟩
     case measure => simp [intOf]; omega
   · have hik2 : ¬ (i : Int) < (N : Int) := by omega
     go_wp2
     go_ret
     exact ⟨rfl, chain2 HB.out HI.out (Nat.le_refl _)⟩
/-- PrinterLines, whatever the input. -/
theorem lines_walk (r : Rw) (r0 r1 r2 r3 : Value) (n : Int) (w : World) (hr : RawAt w (Has w) r [r0, r1, r2, r3]) (hn : I64 n) (hT : EscT w) (ht : Tab w) :
 Calls Tryz.prog 5 #[.agg #[r0, r1, r2, r3], .int .i64 n] w (RetB w true) :=
 linesW r r0 r1 r2 r3 n w hr hT ht hn.1 hn.2
end Go.Proofs.YtlmnjelideegnaaGreatDoor
