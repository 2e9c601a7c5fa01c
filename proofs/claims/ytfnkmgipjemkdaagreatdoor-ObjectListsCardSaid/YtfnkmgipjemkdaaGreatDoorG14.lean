/- The reference's Less. -/
import Derived.Test.YtfnkmgipjemkdaaGreatDoorG13
namespace Go.Proofs.YtfnkmgipjemkdaaGreatDoor
open Go Go.RowKit
set_option linter.unusedVariables false

set_option maxHeartbeats 8000000 in
set_option maxRecDepth 100000 in
theorem lessR (d : Nat) (hd : d ≤ 1000) (a a' : Ob) (p p' : Value) (w : World) (S : Nat → Prop) (hp : Pair w S a p) (hp' : Pair w S a' p') (hb : Bd d a.fix) (hb' : Bd d a'.fix) (ht : Tab w) :
    Calls Tryz.prog 39 #[vO a p, vO a' p'] w (RetB w (decide (ordQ a.fix a'.fix < 0))) := by
  have HT := Lib.hid ht
  have A1 : Hid (∀ wd, Tab wd → Calls Tryz.prog 70 #[vO a p] wd (RetN wd a.fix)) := fun wd h => fixR a p wd (fun q e => by subst e; exact hp) h
  have A2 : Hid (∀ wd, Tab wd → Calls Tryz.prog 70 #[vO a' p'] wd (RetN wd a'.fix)) := fun wd h => fixR a' p' wd (fun q e => by subst e; exact hp') h
  have CN : Hid (∀ wd, Calls Tryz.prog 37 #[vQ a.fix, vQ a'.fix] wd (RetI wd (ordQ a.fix a'.fix))) := fun wd => compareO d hd (.num a.fix) (.num a'.fix) (.slice none 0 0) (.slice none 0 0) wd (fun _ => False) (fun _ h => h.elim) rfl rfl hb hb'
  clear ht hp hp' hb hb'
  generalize a.fix = x at A1 CN ⊢
  generalize a'.fix = y at A2 CN ⊢
  generalize ordQ x y = r at CN ⊢
  obtain ⟨x0, x1, x2, x3, x4, x5, e⟩ := cells7 a p
  obtain ⟨y0, y1, y2, y3, y4, y5, e'⟩ := cells7 a' p'
  unfold vO at A1 A2
  rw [e] at A1
  rw [e'] at A2
  unfold vO
  rw [e, e']
  clear e e'
  go_enter Tryz.func39, Tryz.ntmps39
  go_wp2_with fail
  have T0 := BoxB.new w #[x0, x1, x2, x3, x4, x5, p] #[y0, y1, y2, y3, y4, y5, p']
  generalize (w.alloc (.cells #[x0, x1, x2, x3, x4, x5, p] 31)).alloc (.cells #[y0, y1, y2, y3, y4, y5, p'] 31) = W at T0 ⊢
  have hB0 : Below W.heap.size W W.drew := (Below.refl _ _).drew
  obtain ⟨⟨c0, c1, c2, c3, c4, c5, c6⟩, _⟩ := row7 T0.b0
  obtain ⟨⟨d0, d1, d2, d3, d4, d5, d6⟩, _⟩ := row7 T0.b1
  have HB : Hid (∀ W', Below W.heap.size W W' → Tab W') := fun W' h => HT.out.below (T0.below h).bel
  have HT0 := Lib.hid T0
  clear T0 HT
  go_region_held3 (fun W' => (W'.cell? ⟨w.heap.size, 0, none⟩ = some x0 ∧ W'.cell? ⟨w.heap.size, 1, none⟩ = some x1 ∧ W'.cell? ⟨w.heap.size, 2, none⟩ = some x2 ∧ W'.cell? ⟨w.heap.size, 3, none⟩ = some x3 ∧ W'.cell? ⟨w.heap.size, 4, none⟩ = some x4 ∧ W'.cell? ⟨w.heap.size, 5, none⟩ = some x5 ∧ W'.cell? ⟨w.heap.size, 6, none⟩ = some p) ∧
      (W'.cell? ⟨w.heap.size + 1, 0, none⟩ = some y0 ∧ W'.cell? ⟨w.heap.size + 1, 1, none⟩ = some y1 ∧ W'.cell? ⟨w.heap.size + 1, 2, none⟩ = some y2 ∧ W'.cell? ⟨w.heap.size + 1, 3, none⟩ = some y3 ∧ W'.cell? ⟨w.heap.size + 1, 4, none⟩ = some y4 ∧ W'.cell? ⟨w.heap.size + 1, 5, none⟩ = some y5 ∧ W'.cell? ⟨w.heap.size + 1, 6, none⟩ = some p')) (first | exact ⟨(row7 (HT0.out.below ‹Below W.heap.size W _›).b0).1, (row7 (HT0.out.below ‹Below W.heap.size W _›).b1).1⟩ | go_keep)
    (first
      | (go_at_call_of 70 (Value.agg #[x0, x1, x2, x3, x4, x5, p]); refine (A1.out _ (HB.out _ ‹Below W.heap.size W _›)).mono ?_; rintro e w3 ⟨rfl, hb3⟩; have hB3 := chain2 ‹Below W.heap.size W _› hb3 (Nat.le_refl _); clear hb3)
      | (go_at_call_of 70 (Value.agg #[y0, y1, y2, y3, y4, y5, p']); refine (A2.out _ (HB.out _ ‹Below W.heap.size W _›)).mono ?_; rintro e w4 ⟨rfl, hb4⟩; have hB4 := chain2 ‹Below W.heap.size W _› hb4 (Nat.le_refl _); clear hb4)
      | (go_at_call 37; refine (CN.out _).mono ?_; rintro e w5 ⟨rfl, hb5⟩; have hB5 := chain2 ‹Below W.heap.size W _› hb5 (Nat.le_refl _); clear hb5))
  all_goals go_wp2
  all_goals go_ret
  all_goals exact ⟨rfl, (HT0.out.below ‹Below W.heap.size W _›).bel⟩
end Go.Proofs.YtfnkmgipjemkdaaGreatDoor

/- Raw trees that are few: how many nodes, how long their texts and lists are. -/
namespace Go.Proofs.YtfnkmgipjemkdaaGreatDoor
open Go Go.RowKit
set_option linter.unusedVariables false

mutual
/-- How many nodes a tree has. -/
def Rw.cnt : Rw → Nat
  | .mk _ _ _ l => 1 + Rw.cnts l
def Rw.cnts : List Rw → Nat
  | [] => 0
  | r :: rs => r.cnt + Rw.cnts rs
end
mutual
/-- Short texts, short lists, at every node. -/
def Rw.ok : Rw → Prop
  | .mk _ _ s l => s.size ≤ 12 ∧ l.length ≤ 6 ∧ Rw.oks l
def Rw.oks : List Rw → Prop
  | [] => True
  | r :: rs => r.ok ∧ Rw.oks rs
end
mutual
theorem leftV_ok : ∀ (r : Rw) (m : Int), 0 ≤ leftV r m → r.ok ∧ leftV r m = m - r.cnt
  | .mk k n s l, m, h => by
    unfold leftV at h ⊢
    split at h
    · omega
    · rename_i hs
      rw [if_neg hs]
      have h1 := leftL_ok l (m - 1) h
      unfold Rw.ok Rw.cnt
      refine ⟨⟨by omega, by omega, h1.1⟩, ?_⟩
      rw [h1.2]
      omega
theorem leftL_ok : ∀ (l : List Rw) (m : Int), 0 ≤ leftL l m → Rw.oks l ∧ leftL l m = m - Rw.cnts l
  | [], m, h => by unfold leftL Rw.oks Rw.cnts; exact ⟨trivial, by omega⟩
  | r :: rs, m, h => by
    unfold leftL at h ⊢
    by_cases h0 : 0 ≤ m
    · rw [if_pos h0] at h ⊢
      have h2 := leftL_ok rs (leftV r m) h
      have h3 : 0 ≤ leftV r m := by have := h2.2; omega
      have h1 := leftV_ok r m h3
      unfold Rw.oks Rw.cnts
      refine ⟨⟨h1.1, h2.1⟩, ?_⟩
      rw [h2.2, h1.2]
      omega
    · rw [if_neg h0] at h
      omega
end
theorem few_ok {r : Rw} {m : Int} (h : few r m = true) : r.ok ∧ (r.cnt : Int) ≤ m := by
  have h0 : 0 ≤ leftV r m := of_decide_eq_true h
  have h1 := leftV_ok r m h0
  exact ⟨h1.1, by omega⟩
theorem Rw.cnt_pos : ∀ r : Rw, 1 ≤ r.cnt
  | .mk _ _ _ _ => by unfold Rw.cnt; omega
theorem Rw.oks_mem : ∀ {l : List Rw}, Rw.oks l → ∀ r ∈ l, r.ok
  | r :: rs, h, x, hx => by
    unfold Rw.oks at h
    rcases List.mem_cons.1 hx with rfl | hx
    · exact h.1
    · exact Rw.oks_mem h.2 x hx
theorem Rw.cnt_mem : ∀ {l : List Rw}, ∀ r ∈ l, r.cnt ≤ Rw.cnts l
  | r :: rs, x, hx => by
    unfold Rw.cnts
    rcases List.mem_cons.1 hx with rfl | hx
    · omega
    · have := Rw.cnt_mem x hx; omega
end Go.Proofs.YtfnkmgipjemkdaaGreatDoor

/- The maker of objects: the kinds without parts. -/
namespace Go.Proofs.YtfnkmgipjemkdaaGreatDoor
open Go Go.RowKit
set_option linter.unusedVariables false

/-- No blocks. -/
def NoB (b : Nat) : Prop := False
theorem NoB.in (w : World) : In NoB w := fun _ h => h.elim
/-- Small numbers, few nodes. -/
def OkO (m : Nat) (o : Ob) : Prop := o.bd 20 ∧ o.nodes ≤ m
/-- The call returned an object with small numbers and at most m nodes, over blocks of its own. -/
def RetX (w : World) (m : Nat) (e : Ending) (w' : World) : Prop := ∃ o p, e = .returned (vO o p) ∧ Pair w' (Upto w w' NoB) o p ∧ Below w.heap.size w w' ∧ OkO m o
theorem RetO.x {w w' : World} {o : Ob} {e : Ending} {m : Nat} (h : RetO w NoB o e w') (hm : OkO m o) : RetX w m e w' := by
  obtain ⟨p, h1, h2, h3⟩ := h
  exact ⟨o, p, h1, h2, h3, hm⟩

/-- The tree's box and the result's box. -/
structure MkW (w W : World) (raw : Array Value) : Prop where
  bel : Below w.heap.size w W
  b0 : W.heap[w.heap.size]? = some (.cells raw 26 (0, 0))
  b1 : W.heap[w.heap.size + 1]? = some (.cells #[.int .i64 0, .string ⟨#[]⟩, .string ⟨#[]⟩, .string ⟨#[]⟩, .string ⟨#[]⟩, .string ⟨#[]⟩, .slice none 0 0] 31 (0, 0))
  sz : W.heap.size = w.heap.size + 2
theorem MkW.new (w : World) (raw : Array Value) : MkW w ((w.alloc (.cells raw 26)).alloc (.cells #[.int .i64 0, .string ⟨#[]⟩, .string ⟨#[]⟩, .string ⟨#[]⟩, .string ⟨#[]⟩, .string ⟨#[]⟩, .slice none 0 0] 31)) raw :=
  ⟨Below.alloc (Below.alloc (Below.refl _ _) (Nat.le_refl _) _) (by simp) _, heap_alloc2_old w _ _, heap_alloc2_new w _ _, by simp⟩
theorem MkW.cell {w W : World} {raw : Array Value} (h : MkW w W raw) (i : Nat) : W.cell? ⟨w.heap.size, i, none⟩ = raw[i]? := cell_of_row _ _ _ _ _ _ h.b0

/-- The maker returns the object that it has just stored. -/
theorem retX {fn : Func} {q : Tmp} {w0 : World} {S' : Nat → Prop} {tmps : Array Value} {w : World} {g m : Nat} {o : Ob} {p : Value} {t : TypeId} {old : Array Value} {fr : Nat × Nat}
    (h : fn.results = #[.cell q 31]) (hq : tmps.getD q undef = .pointer (some ⟨g, 0, none⟩)) (hg : w.heap[g]? = some (.cells old t fr))
    (hp : Pair w S' o p) (hn : ¬ S' g) (hS : ∀ b, S' b → Upto w0 w NoB b) (hlt : w0.heap.size ≤ g) (hb : Below w0.heap.size w0 w) (hm : OkO m o) :
    bodyPost Tryz.prog fn (RetX w0 m) Exit.ret ⟨tmps, []⟩ (w.setRow g (cellsO o p).toArray) :=
  retO h hq (setRow_heap _ _ _ _ _ _ hg) (by simp [cellsO_length]) ⟨o, p, rfl, (hp.setRow g hn _).more (fun b hb => by
    have := hS b hb
    unfold Upto at this ⊢
    rwa [size_setRow]), below_setRowO hb hlt _, hm⟩

theorem bd_small {n : Int} (h0 : -2000 ≤ n) (h1 : n ≤ 2000) : Bd 20 (n : Rat) := (bd_int (k := 4) (by omega) (by decide)).more (by decide)

set_option maxHeartbeats 4000000 in
set_option maxRecDepth 100000 in
theorem objInt (k n : Int) (s : ByteArray) (A : Option Addr) (L c : Nat) (w : World) (m : Nat) (hm : 1 ≤ m) (hq : k % 8 = 0 ∨ k % 8 = 1) (hk : I64 k) (hn : I64 n) (ht : Tab w) :
    Calls Tryz.prog 10 #[.agg #[.int .i64 k, .int .i64 n, .string s, .slice A L c]] w (RetX w m) := by
  have HT := Lib.hid ht
  have HK := Lib.hid hk
  have HN := Lib.hid hn
  have HQ := Lib.hid hq
  clear ht hk hn hq
  go_enter Tryz.func10, Tryz.ntmps10
  go_wp2_with fail
  have M := MkW.new w #[.int .i64 k, .int .i64 n, .string s, .slice A L c]
  refine (modO k 8 _ HK.out.1 HK.out.2 (by decide) (by decide)).mono ?_
  rintro e w1 ⟨rfl, rfl⟩
  generalize (w.alloc (.cells #[.int .i64 k, .int .i64 n, .string s, .slice A L c] 26)).alloc (.cells #[.int .i64 0, .string ⟨#[]⟩, .string ⟨#[]⟩, .string ⟨#[]⟩, .string ⟨#[]⟩, .string ⟨#[]⟩, .slice none 0 0] 31) = W at M ⊢
  have c1 : W.cell? ⟨w.heap.size, 1, none⟩ = some (.int .i64 n) := M.cell 1
  have HM := Lib.hid M
  clear M
  have hq := HQ.out
  clear HQ
  generalize k % 8 = q at hq ⊢
  have j0 := Int.emod_nonneg n (show (2001 : Int) ≠ 0 by decide)
  have j1 := Int.emod_lt_of_pos n (show (0 : Int) < 2001 by decide)
  have CM := Lib.hid (modO n 2001 W HN.out.1 HN.out.2 (by decide) (by decide))
  generalize n % 2001 = j at j0 j1 CM
  have CI : Hid (Calls Tryz.prog 14 #[.int .i64 (j - 1000)] W (RetO W NoB (.num ((j - 1000 : Int) : Rat)))) := intO (j - 1000) W NoB (NoB.in W) (i64_small (by omega)) (HT.out.below HM.out.bel)
  have OK : Hid (OkO m (.num ((j - 1000 : Int) : Rat))) := ⟨bd_small (by omega) (by omega), hm⟩
  generalize ((j - 1000 : Int) : Rat) = x at CI OK
  rcases hq with rfl | rfl
  all_goals
    go_wp2_with fail
    refine CM.out.mono ?_
    rintro e w1 ⟨rfl, rfl⟩
    go_wp2_with fail
    refine CI.out.mono ?_
    rintro e w2 ⟨p, rfl, hp, hb2⟩
    have hs2 := hb2.size
    have hsz := HM.out.sz
    have hg2 := Lib.hid ((hb2.block (w.heap.size + 1) (by omega)).trans HM.out.b1)
    have hbw := Lib.hid (HM.out.bel.trans (hb2.mono (by omega)))
    go_wp2_with (refine storeV (w1 := w2) rfl (.tmp 2) (.tmp 15) rfl (w.heap.size + 1) _ _ rfl rfl hp _ _ hg2.out rfl ?_)
    exact retX (q := 2) rfl rfl hg2.out hp (fun h => by
      rcases h with h | ⟨h, _⟩
      · exact h
      · omega) (fun b hb => by
      rcases hb with hb | ⟨h1, h2⟩
      · exact hb.elim
      · exact .inr ⟨by omega, h2⟩) (by omega) hbw.out OK.out
end Go.Proofs.YtfnkmgipjemkdaaGreatDoor

/- The maker of objects: texts, symbols, fractions. -/
namespace Go.Proofs.YtfnkmgipjemkdaaGreatDoor
open Go Go.RowKit
set_option linter.unusedVariables false

theorem MkW.below {w W W' : World} {raw : Array Value} (h : MkW w W raw) (hb : Below W.heap.size W W') : Below w.heap.size w W' ∧ W'.heap[w.heap.size]? = some (.cells raw 26 (0, 0)) ∧
    W'.heap[w.heap.size + 1]? = some (.cells #[.int .i64 0, .string ⟨#[]⟩, .string ⟨#[]⟩, .string ⟨#[]⟩, .string ⟨#[]⟩, .string ⟨#[]⟩, .slice none 0 0] 31 (0, 0)) := by
  have := h.sz
  exact ⟨h.bel.trans (hb.mono (by omega)), (hb.block _ (by omega)).trans h.b0, (hb.block _ (by omega)).trans h.b1⟩

set_option maxHeartbeats 4000000 in
set_option maxRecDepth 100000 in
theorem objText (k n : Int) (s : ByteArray) (A : Option Addr) (L c : Nat) (w : World) (m : Nat) (hm : 1 ≤ m) (hq : k % 8 = 4) (hk : I64 k) :
    Calls Tryz.prog 10 #[.agg #[.int .i64 k, .int .i64 n, .string s, .slice A L c]] w (RetX w m) := by
  have HK := Lib.hid hk
  have HQ := Lib.hid hq
  clear hk hq
  go_enter Tryz.func10, Tryz.ntmps10
  go_wp2_with fail
  have M := MkW.new w #[.int .i64 k, .int .i64 n, .string s, .slice A L c]
  refine (modO k 8 _ HK.out.1 HK.out.2 (by decide) (by decide)).mono ?_
  rintro e w1 ⟨rfl, rfl⟩
  generalize (w.alloc (.cells #[.int .i64 k, .int .i64 n, .string s, .slice A L c] 26)).alloc (.cells #[.int .i64 0, .string ⟨#[]⟩, .string ⟨#[]⟩, .string ⟨#[]⟩, .string ⟨#[]⟩, .string ⟨#[]⟩, .slice none 0 0] 31) = W at M ⊢
  have c2 : W.cell? ⟨w.heap.size, 2, none⟩ = some (.string s) := M.cell 2
  have HM := Lib.hid M
  clear M
  have hq := HQ.out
  clear HQ
  generalize k % 8 = q at hq ⊢
  subst hq
  have OK : Hid (OkO m (.str (LA s))) := ⟨trivial, hm⟩
  go_wp2_with fail
  refine (textO s W NoB).mono ?_
  rintro e w2 ⟨p, rfl, hp, hb2⟩
  have hs2 := hb2.size
  have hsz := HM.out.sz
  have hg2 := Lib.hid ((hb2.block (w.heap.size + 1) (by omega)).trans HM.out.b1)
  have hbw := Lib.hid (HM.out.bel.trans (hb2.mono (by omega)))
  go_wp2_with (refine storeV (w1 := w2) rfl (.tmp 2) (.tmp 39) rfl (w.heap.size + 1) _ _ rfl rfl hp _ _ hg2.out rfl ?_)
  exact retX (q := 2) rfl rfl hg2.out hp (fun h => by
    rcases h with h | ⟨h, _⟩
    · exact h
    · omega) (fun b hb => by
    rcases hb with hb | ⟨h1, h2⟩
    · exact hb.elim
    · exact .inr ⟨by omega, h2⟩) (by omega) hbw.out OK.out

set_option maxHeartbeats 4000000 in
set_option maxRecDepth 100000 in
theorem objSym (k n : Int) (s : ByteArray) (A : Option Addr) (L c : Nat) (w : World) (m : Nat) (hm : 1 ≤ m) (hq : k % 8 = 3) (hk : I64 k) (hn : I64 n) :
    Calls Tryz.prog 10 #[.agg #[.int .i64 k, .int .i64 n, .string s, .slice A L c]] w (RetX w m) := by
  have HK := Lib.hid hk
  have HN := Lib.hid hn
  have HQ := Lib.hid hq
  clear hk hq hn
  go_enter Tryz.func10, Tryz.ntmps10
  go_wp2_with fail
  have M := MkW.new w #[.int .i64 k, .int .i64 n, .string s, .slice A L c]
  refine (modO k 8 _ HK.out.1 HK.out.2 (by decide) (by decide)).mono ?_
  rintro e w1 ⟨rfl, rfl⟩
  generalize (w.alloc (.cells #[.int .i64 k, .int .i64 n, .string s, .slice A L c] 26)).alloc (.cells #[.int .i64 0, .string ⟨#[]⟩, .string ⟨#[]⟩, .string ⟨#[]⟩, .string ⟨#[]⟩, .string ⟨#[]⟩, .slice none 0 0] 31) = W at M ⊢
  have c1 : W.cell? ⟨w.heap.size, 1, none⟩ = some (.int .i64 n) := M.cell 1
  have HM := Lib.hid M
  clear M
  have hq := HQ.out
  clear HQ
  generalize k % 8 = q at hq ⊢
  subst hq
  go_wp2_with fail
  refine (symMake n W HN.out.1 HN.out.2).mono ?_
  rintro e w1 ⟨a, b, rfl, hb1⟩
  have hs1 := hb1.size
  have OK : Hid (OkO m (.sym (LA (BA a)) (LA (BA b)))) := ⟨trivial, hm⟩
  have HB1 := Lib.hid hb1
  clear hb1 c1
  go_wp2_with fail
  refine (symO (BA a) (BA b) w1 NoB).mono ?_
  rintro e w2 ⟨p, rfl, hp, hb2⟩
  have hs2 := hb2.size
  have hsz := HM.out.sz
  have hb12 := HB1.out.trans (hb2.mono hs1)
  have hg2 := Lib.hid ((hb12.block (w.heap.size + 1) (by omega)).trans HM.out.b1)
  have hbw := Lib.hid (HM.out.bel.trans (hb12.mono (by omega)))
  clear hb12
  go_wp2_with (refine storeV (w1 := w2) rfl (.tmp 2) (.tmp 34) rfl (w.heap.size + 1) _ _ rfl rfl hp _ _ hg2.out rfl ?_)
  exact retX (q := 2) rfl rfl hg2.out hp (fun h => by
    rcases h with h | ⟨h, _⟩
    · exact h
    · omega) (fun b hb => by
    rcases hb with hb | ⟨h1, h2⟩
    · exact hb.elim
    · exact .inr ⟨by omega, h2⟩) (by omega) hbw.out OK.out

theorem mkRetQ {w W : World} {m : Nat} {q : Rat} (hb : Below w.heap.size w W) {z0 z1 z2 z3 z4 z5 z6 : Value} (h1 : W.heap[w.heap.size + 1]? = some (.cells #[z0, z1, z2, z3, z4, z5, z6] 31 (0, 0))) (ok : OkO m (.num q)) {fn : Func} {r : Tmp} {tmps : Array Value}
    (h : fn.results = #[.cell r 31]) (hr : tmps.getD r undef = .pointer (some ⟨w.heap.size + 1, 0, none⟩)) :
    bodyPost Tryz.prog fn (RetX w m) Exit.ret ⟨tmps, []⟩ (((((((W.setCell ⟨w.heap.size + 1, 0, none⟩ (.int .i64 1)).setCell ⟨w.heap.size + 1, 1, none⟩ (.string (nt q))).setCell ⟨w.heap.size + 1, 2, none⟩ (.string (dt q))).setCell ⟨w.heap.size + 1, 3, none⟩ (.string ⟨#[]⟩)).setCell ⟨w.heap.size + 1, 4, none⟩ (.string ⟨#[]⟩)).setCell ⟨w.heap.size + 1, 5, none⟩ (.string ⟨#[]⟩)).setCell ⟨w.heap.size + 1, 6, none⟩ (.slice none 0 0)) := by
  rw [setRow7 h1 rfl]
  exact retX (S' := NoB) (o := .num q) (p := .slice none 0 0) h hr h1 rfl (fun h => h) (fun _ h => h.elim) (by omega) hb ok

set_option maxHeartbeats 8000000 in
set_option maxRecDepth 100000 in
theorem objRat (k n : Int) (s : ByteArray) (A : Option Addr) (L c : Nat) (w : World) (m : Nat) (hm : 1 ≤ m) (hq : k % 8 = 2) (hk : I64 k) (hn : I64 n) (hs : s.size ≤ 12) (ht : Tab w) :
    Calls Tryz.prog 10 #[.agg #[.int .i64 k, .int .i64 n, .string s, .slice A L c]] w (RetX w m) := by
  have HT := Lib.hid ht
  have HK := Lib.hid hk
  have HN := Lib.hid hn
  have HQ := Lib.hid hq
  clear hk hq hn ht
  go_enter Tryz.func10, Tryz.ntmps10
  go_wp2_with fail
  have M := MkW.new w #[.int .i64 k, .int .i64 n, .string s, .slice A L c]
  refine (modO k 8 _ HK.out.1 HK.out.2 (by decide) (by decide)).mono ?_
  rintro e w1 ⟨rfl, rfl⟩
  generalize (w.alloc (.cells #[.int .i64 k, .int .i64 n, .string s, .slice A L c] 26)).alloc (.cells #[.int .i64 0, .string ⟨#[]⟩, .string ⟨#[]⟩, .string ⟨#[]⟩, .string ⟨#[]⟩, .string ⟨#[]⟩, .slice none 0 0] 31) = W at M ⊢
  have c1 : W.cell? ⟨w.heap.size, 1, none⟩ = some (.int .i64 n) := M.cell 1
  have c2 : W.cell? ⟨w.heap.size, 2, none⟩ = some (.string s) := M.cell 2
  have HM := Lib.hid M
  clear M
  have hq := HQ.out
  clear HQ
  generalize k % 8 = q at hq ⊢
  subst hq
  have j0 := Int.emod_nonneg n (show (41 : Int) ≠ 0 by decide)
  have j1 := Int.emod_lt_of_pos n (show (0 : Int) < 41 by decide)
  have CM : Hid (∀ W, Calls Tryz.prog 52 #[.int .i64 n, .int .i64 41] W fun e w' => e = .returned (.int .i64 (n % 41)) ∧ W = w') := fun W => modO n 41 W HN.out.1 HN.out.2 (by decide) (by decide)
  generalize n % 41 = j at j0 j1 CM
  obtain ⟨z, hz⟩ : ∃ z : Nat, s.size = z := ⟨_, rfl⟩
  have hz12 : z ≤ 12 := by omega
  have HB : Hid (∀ W', Below W.heap.size W W' → Tab W') := fun W' h => HT.out.below (HM.out.below h).1
  have CF1 : Hid (∀ W', Below W.heap.size W W' → Calls Tryz.prog 53 #[.int .i64 (j - 20)] W' (RetS W' (j - 20))) := fun W' h => fromIntR _ W' (i64_small (by omega)) (HB.out W' h)
  have CF2 : Hid (∀ W', Below W.heap.size W W' → Calls Tryz.prog 53 #[.int .i64 (1 + (s.size : Int))] W' (RetS W' (1 + (s.size : Int)))) := fun W' h => fromIntR _ W' (i64_small (by omega)) (HB.out W' h)
  have t1 : (BA (text (j - 20))).size ≤ 10 := by
    rw [BA_size]; exact Nat.le_trans (text_length (k := 4) (by omega)) (by omega)
  have t2 : (BA (text (1 + (s.size : Int)))).size ≤ 10 := by
    rw [BA_size]; exact Nat.le_trans (text_length (k := 4) (by omega)) (by omega)
  have CQ : Hid (∀ W', Calls Tryz.prog 15 #[.string (BA (text (j - 20))), .string (BA (text (1 + (s.size : Int))))] W' (RetN W' (quo (LA (BA (text (j - 20)))) (LA (BA (text (1 + (s.size : Int)))))))) := fun W' => ratRN _ _ W' (by omega) (by omega)
  have OK : Hid (OkO m (.num (quo (LA (BA (text (j - 20)))) (LA (BA (text (1 + (s.size : Int)))))))) := ⟨(bd_quo (k := 20) (by show (BA _).size ≤ 20; omega) (by show (BA _).size ≤ 20; omega) (by decide)), hm⟩
  generalize quo (LA (BA (text (j - 20)))) (LA (BA (text (1 + (s.size : Int))))) = x at CQ OK
  have HS := Lib.hid hs
  have HC : Hid (∀ W', Below W.heap.size W W' → W'.cell? ⟨w.heap.size, 1, none⟩ = some (.int .i64 n) ∧ W'.cell? ⟨w.heap.size, 2, none⟩ = some (.string s)) := fun W' h => ⟨by rw [cell_of_row _ _ _ _ _ _ (HM.out.below h).2.1]; rfl, by rw [cell_of_row _ _ _ _ _ _ (HM.out.below h).2.1]; rfl⟩
  have e1 : IntKind.i64.wrap (j - 20) = j - 20 := IntWalk.i64_in _ (by omega)
  have e2 : IntKind.i64.wrap (1 + (s.size : Int)) = 1 + (s.size : Int) := IntWalk.i64_in _ (by omega)
  clear t1 t2 hz hz12 hs j0 j1
  have hB0 : Below W.heap.size W W.drew := (Below.refl _ _).drew
  go_wp2_with fail
  go_region_held3 (fun W' => W'.cell? ⟨w.heap.size, 1, none⟩ = some (.int .i64 n) ∧ W'.cell? ⟨w.heap.size, 2, none⟩ = some (.string s))
    (go_keep)
    (first
      | (go_at_call 52; refine (CM.out _).mono ?_; rintro e w3 ⟨rfl, rfl⟩)
      | (go_at_call 53; (with_reducible refine (CF1.out _ ‹Below W.heap.size W _›).mono ?_); rintro e w3 ⟨rfl, hb3⟩; have hB3 := chain2 ‹Below W.heap.size W _› hb3 (Nat.le_refl _); clear hb3 c1 c2; obtain ⟨c1, c2⟩ := HC.out _ hB3)
      | (go_at_call 53; (with_reducible refine (CF2.out _ ‹Below W.heap.size W _›).mono ?_); rintro e w4 ⟨rfl, hb4⟩; have hB4 := chain2 ‹Below W.heap.size W _› hb4 (Nat.le_refl _); clear hb4 c1 c2; obtain ⟨c1, c2⟩ := HC.out _ hB4)
      | (go_at_call 15; refine (CQ.out _).mono ?_; rintro e w5 ⟨rfl, hb5⟩; have hB5 := chain2 ‹Below W.heap.size W _› hb5 (Nat.le_refl _); clear hb5 c1 c2; obtain ⟨c1, c2⟩ := HC.out _ hB5; have hg5 := (HM.out.below hB5).2.2; obtain ⟨⟨z0, z1, z2, z3, z4, z5, z6⟩, hz0⟩ := row7 hg5; clear hg5; unfold vQ))
  all_goals go_wp2
  all_goals exact mkRetQ (HM.out.below ‹Below W.heap.size W _›).1 (HM.out.below ‹Below W.heap.size W _›).2.2 OK.out rfl rfl
end Go.Proofs.YtfnkmgipjemkdaaGreatDoor
