/- SymbolMany: the walk. -/
import Derived.Test.YtcgchacokcnacaaDoorY23
import Derived.Maps.AppendAt
import Derived.Deep.RegionHeld3
import Derived.Deep.RegionLaw
namespace Go.Proofs.YtcgchacokcnacaaDoor
open Go Go.RowKit
set_option linter.unusedVariables false

theorem PB.setC1 {W : World} {g : Nat} {x y : Value} (h : PB W g x y) (v : Value) : PB (W.setCell ⟨g, 1, none⟩ v) g x v := by
  have := heap_setCell_same W g 1 _ _ v h
  unfold PB
  simpa using this
def flatQ : List Sy → List Value
  | [] => []
  | s :: r => .string s.1 :: .string s.2 :: flatQ r
theorem flatQ_append : ∀ (l r : List Sy), flatQ (l ++ r) = flatQ l ++ flatQ r
  | [], _ => rfl
  | s :: l, r => by simp only [List.cons_append, flatQ, flatQ_append l r]
theorem flatQ_length : ∀ (l : List Sy), (flatQ l).length = l.length * 2
  | [] => rfl
  | s :: l => by simp only [flatQ, List.length_cons, flatQ_length l]; omega
theorem flatQ_at : ∀ (l : List Sy) (i : Nat) (hi : i < l.length), (flatQ l)[i * 2]? = some (.string l[i].1) ∧ (flatQ l)[i * 2 + 1]? = some (.string l[i].2)
  | s :: l, 0, _ => ⟨rfl, rfl⟩
  | s :: l, i + 1, hi => by
    have := flatQ_at l i (by simpa using hi)
    rw [show (i + 1) * 2 = i * 2 + 1 + 1 from by omega]
    exact ⟨by simpa [flatQ] using this.1, by simpa [flatQ] using this.2⟩
theorem manyQ_succ (i : Nat) : flatQ (manyQ (i + 1)) = flatQ (manyQ i) ++ [.string ⟨#[108, 105, 115, 112]⟩, .string (manyS i).2] := by
  unfold manyQ
  rw [List.range_succ, List.map_append, flatQ_append]
  rfl
theorem manyQ_length (i : Nat) : (manyQ i).length = i := by simp [manyQ]
theorem SyV.of_own {w : World} {base n : Nat} {sl : Value} {q : List Sy} (h : w.ownsRow base 29 2 sl n (flatQ q)) (hq : q.length = n) : SyV w q sl := by
  subst hq
  rcases h.2 with ⟨h1, h2⟩ | ⟨g, cap, cur, rfl, hb, hg, hn, hc, _, _⟩
  · subst h1
    rw [List.eq_nil_of_length_eq_zero h2]
    exact SyV.nil _
  · refine ⟨some ⟨g, 0, none⟩, cap, rfl, hn, hc, fun h0 => ⟨g, 0, rfl, blk_ltY hg, fun i hi => ?_⟩⟩
    obtain ⟨k0, k1⟩ := flatQ_at q i hi
    rw [Nat.zero_add]
    exact ⟨(h.cellAt (i * 2) (by omega)).trans k0, (h.cellAt (i * 2 + 1) (by omega)).trans k1⟩
theorem own_belowY {w w' : World} {base n : Nat} {sl : Value} {xs : List Value} (h : w.ownsRow base 29 2 sl n xs) (hb : Below w.heap.size w w') : w'.ownsRow base 29 2 sl n xs := by
  refine ⟨h.1, ?_⟩
  rcases h.2 with h1 | ⟨g, cap, cur, h1, h2, h3, rest⟩
  · exact .inl h1
  · exact .inr ⟨g, cap, cur, h1, h2, (hb.block g (blk_ltY h3)).trans h3, rest⟩
theorem PB.fr {W : World} {g : Nat} {x y : Value} (h : PB W g x y) (i : Nat) : W.frozen? ⟨g, i, none⟩ = false := by
  unfold PB at h
  simp [World.frozen?, h]
theorem own_oneY {w : World} {base n : Nat} {sl : Value} {xs : List Value} (h : w.ownsRow base 29 2 sl n xs) : sl.oneCell' = true := by
  rcases h.2 with ⟨h1, _⟩ | ⟨g, cap, cur, h1, _⟩ <;> subst h1 <;> rfl
theorem own_succY {w : World} {base n : Nat} {sl : Value} {xs : List Value} (h : w.ownsRow base 29 2 sl (n + 1) xs) : ∃ g cap, sl = .slice (some ⟨g, 0, none⟩) (n + 1) cap := by
  rcases h.2 with ⟨_, h1⟩ | ⟨g, cap, cur, h1, _⟩
  · omega
  · exact ⟨g, cap, h1⟩
theorem stepIntY {ops : Array Oper} {o : Oper} {a : Act} {w : World} {K : Act → World → Prop} {Q : Exit → Act → World → Prop} {E : Prop} (hgd : o.guard = none) (s : Tmp)
    (ho : o.op = .call { callee := .value (.func 6), args := #[.tmp s], argTypes := #[3] }) (k : Nat) (hk : k ≤ 100000) (hx : a.tmps[s]? = some (.int .i64 k)) (ht : TabY w)
    (h : ∀ w3, Below w.heap.size w w3 → K (a.put o.dst (.string (manyS k).2)) w3) : if Region.wanted o (yielded ops a.tmps) = true then Oper.wp Tryd.prog o a w K Q else E := by
  have hw : Region.wanted o (yielded ops a.tmps) = true := by simp [Region.wanted, hgd]
  rw [if_pos hw]
  have hc := fromIntY k hk w ht
  unfold Oper.wp
  simp only [execOp, ho]
  go_simp
  refine hc.mono ?_
  rintro e w' ⟨rfl, hb⟩
  exact h _ hb
theorem stepOwnS {ops : Array Oper} {o : Oper} {a : Act} {w : World} {K : Act → World → Prop} {Q : Exit → Act → World → Prop} {E : Prop} (hgd : o.guard = none) (s x : Operand)
    (ho : o.op = .call { callee := .builtin .append, args := #[s, x], argTypes := #[24, 24] }) (base n : Nat) (v : Value) (xs : List Value) (g : Nat) (y z : Value) (hs : a.eval s = v) (hx : a.eval x = .slice (some ⟨g, 0, none⟩) 1 1)
    (hown : w.ownsRow base 29 2 v n xs) (hrow : SB w g y z) (h1 : y.oneCell' = true) (h2 : z.oneCell' = true) (hn : n ≤ 1000) (hbase : base ≤ w.heap.size)
    (h : ∀ v' w', w'.ownsRow base 29 2 v' (n + 1) (xs ++ [y, z]) → w.grownBy w' v.ownBlock → K (a.put o.dst v') w') :
    if Region.wanted o (yielded ops a.tmps) = true then Oper.wp Tryd.prog o a w K Q else E := by
  have hw : Region.wanted o (yielded ops a.tmps) = true := by simp [Region.wanted, hgd]
  rw [if_pos hw]
  obtain ⟨i, i1, i2, i3, i4⟩ := infoS
  obtain ⟨v', w', hr, k2, k3, _, _⟩ := run_append_own_at (P := Tryd.prog) w base 24 o.type 29 i _ 2 32 Tryd.underlying24 i1 i2 i3 i4 rfl (by omega) v n xs hown ⟨g, 0, none⟩ 1 1 [y, z] rfl
    (fun j u hj => by
      rw [show (Addr.add ⟨g, 0, none⟩ j) = ⟨g, j, none⟩ from by simp [Addr.add_lit], cell_of_row _ _ _ _ _ _ hrow]
      simpa using hj) (fun u hu => by
      simp only [List.mem_cons, List.not_mem_nil, or_false] at hu
      rcases hu with rfl | rfl <;> assumption) (by unfold maxLen; omega) (by omega) hbase
  unfold Oper.wp execOp
  simp only [ho, resolve, invoke, builtin, Sem.run_bind, Sem.run_pure, Result.andThen_ok, List.map_toArray, List.map_cons, List.map_nil, hs, hx, hr]
  exact h v' w' k2 k3
theorem grown_belowY {k : Nat} {w0 w w' : World} {row : Option Nat} (h : Below k w0 w) (hg : w.grownBy w' row) (hk : k ≤ w.heap.size) (hr : ∀ j, row = some j → k ≤ j) : Below k w0 w' :=
  h.trans ⟨hg.os, hg.tape, hg.output, hg.size, fun b hb => hg.block b (by omega) (fun e => by have := hr b e.symm; omega)⟩
def ManW (w1 wr : World) (i : Nat) (sl : Value) : Prop := Below w1.heap.size w1 wr ∧ PB wr w1.heap.size (.string ⟨#[109, 97, 110, 121]⟩) sl ∧ wr.ownsRow (w1.heap.size + 1) 29 2 sl i (flatQ (manyQ i))
theorem ManW.step {w1 wo w3 w4 : World} {i g : Nat} {sl v4 : Value} {x : Obj} (h : ManW w1 wo i sl) (h3 : Below wo.heap.size wo w3) (h4 : w4.ownsRow (w1.heap.size + 1) 29 2 v4 (i + 1) (flatQ (manyQ i) ++ [.string ⟨#[108, 105, 115, 112]⟩, .string (manyS i).2])) (hg : (w3.alloc x).grownBy w4 sl.ownBlock) :
    PB w4 w1.heap.size (.string ⟨#[109, 97, 110, 121]⟩) sl ∧ ManW w1 (w4.setCell ⟨w1.heap.size, 1, none⟩ v4) (i + 1) v4 := by
  obtain ⟨hb, hp, ho⟩ := h
  have hlt := hp.lt
  have hp3 := PB.keep (PB.keep hp h3) (bAlP w3 x)
  have hown := own_belowY (own_belowY ho h3) (bAlP w3 x)
  have hp4 : PB w4 w1.heap.size (.string ⟨#[109, 97, 110, 121]⟩) sl := (hg.block _ hp3.lt (fun e => by have := (hown.lt _ e.symm).1; omega)).trans hp3
  have hb4 : Below w1.heap.size w1 w4 := grown_belowY (chainY (chainY hb h3 (Nat.le_refl _)) (bAlP w3 x) (Nat.le_refl _)) hg (by have := hp3.lt; omega) (fun j hj => by have := (hown.lt _ hj).1; omega)
  exact ⟨hp4, hb4.setCell (Nat.le_refl _) v4, hp4.setC1 v4, by rw [manyQ_succ]; exact ownsRow_setCell_below h4 (Nat.lt_succ_self _) v4⟩
theorem manyDef (N : Nat) (h : 199 ≤ N) (h' : N ≤ 201) : (defineM initM (⟨#[109, 97, 110, 121]⟩, manyQ N)).2 = if 200 < N then 2 else 0 := by
  have : N = 199 ∨ N = 200 ∨ N = 201 := by omega
  unfold defineM
  rcases this with rfl | rfl | rfl
  · rw [many199]; rfl
  · rw [many200]; rfl
  · rw [many201]; rfl
set_option maxHeartbeats 16000000 in
set_option maxRecDepth 100000 in
theorem symbolMany_walk (n : Int) (w : World) (hn : -9223372036854775808 ≤ n ∧ n ≤ 9223372036854775807) (ht : TabY w) : Calls Tryd.prog 3 #[.int .i64 n] w (RetY w (.bool true)) := by
  obtain ⟨r, hr, hr2⟩ : ∃ r : Nat, n % 3 = (r : Int) ∧ r ≤ 2 := ⟨(n % 3).toNat, by omega, by omega⟩
  have HTB := Lib.hid ht
  clear ht
  go_enter Tryd.func3, Tryd.ntmps3
  go_wp2_with fail
  refine (firstS w).mono ?_
  rintro e w1 ⟨rfl, hb⟩
  have HB1 := Lib.hid hb
  have HT1 := Lib.hid (HTB.out.below hb)
  clear hb HTB
  go_wp2_with fail
  refine (mod3Y n w1 hn.1 hn.2).mono ?_
  rintro e w2 ⟨rfl, rfl⟩
  rw [hr]
  clear hr hn
  have H0 : Hid (ManW w1 (w1.alloc (.cells #[.string ⟨#[109, 97, 110, 121]⟩, .slice none 0 0] 26)) 0 (.slice none 0 0)) := ⟨bAlP _ _, PB.new _ _ _, World.ownsRow_nil _ _ _ _⟩
  go_wp2_with fail
  go_loopw [4] (fun v wr => ∃ (i : Nat) (sl : Value), i ≤ 199 + r ∧ v = .int .i64 i ∧ Hid (ManW w1 wr i sl)) (fun v _ => 199 + r - (intOf v).toNat)
  case atStart => exact ⟨0, _, by omega, rfl, H0⟩
  case round =>
    obtain ⟨i, sl, hi, rfl, hE⟩ := hrel
    obtain ⟨wo, rfl⟩ : ∃ wo : World, wo = wr := ⟨_, rfl⟩
    clear H0
    have HP := Lib.hid hE.out.2.1
    have HO := Lib.hid hE.out.2.2
    have HBo := Lib.hid hE.out.1
    have m0 := HP.out.c0
    have m1 := HP.out.c1
    by_cases hiN : i < 199 + r
    · have hi1 : (i : Int) < 199 + (r : Int) := by omega
      go_upto_region 8 with fail
      go_region_law
        ((first
          | ((with_reducible refine stepIntY ?_ 21 ?_ i (by omega) ?_ ?_ ?_); rfl; rfl; rfl; (first | exact HT1.out.below (bDrewP HBo.out) | exact HT1.out.below HBo.out); (intro w3 hb; have HX3 : Hid (Below wo.heap.size wo w3) := (by first | exact hb | exact chainY (bDrewP (Below.refl _ _)) hb (Nat.le_refl _)); have HP3 := Lib.hid (PB.keep HP.out HX3.out); clear m0 m1 hb; have m0 := HP3.out.c0; have m1 := HP3.out.c1; have m1' : ∀ x, (w3.alloc x).cell? ⟨w1.heap.size, 1, none⟩ = some sl := fun x => (PB.keep HP3.out (bAlP w3 x)).c1))
          | ((with_reducible refine stepOwnS ?_ (.tmp 20) (.tmp 24) ?_ (w1.heap.size + 1) i sl (flatQ (manyQ i)) w3.heap.size (.string ⟨#[108, 105, 115, 112]⟩) (.string (manyS i).2) ?_ ?_ ?_ ?_ ?_ ?_ ?_ ?_ ?_); rfl; rfl; rfl; rfl; (exact own_belowY (own_belowY HO.out HX3.out) (bAlP _ _)); (exact SB.new _ _ _); rfl; rfl; (omega); (have h5 := HP3.out.lt; simp; omega); (intro v4 w4 hown4 hg4; obtain ⟨g4, cap4, rfl⟩ := own_succY hown4; have HST := Lib.hid (ManW.step (g := 0) hE.out HX3.out hown4 hg4); clear m0 m1 m1' hown4 hg4; have f1 := HST.out.1.fr 1; have m0 := HST.out.1.c0; have m1 := HST.out.1.c1))
          ))
      all_goals
        go_wp2_with fail
        go_roundw
        case rel => exact ⟨i + 1, _, by omega, by go_num, HST.out.2⟩
        case measure => simp [intOf]; omega
    · have HS : Hid (SyV wo (manyQ i) sl) := SyV.of_own HO.out (manyQ_length i)
      have hn1 : ¬ (i : Int) < 199 + (r : Int) := by omega
      have hiE : i = 199 + r := by omega
      obtain ⟨⟨dl, de⟩, hd⟩ : ∃ d, defineM initM (⟨#[109, 97, 110, 121]⟩, manyQ i) = d := ⟨_, rfl⟩
      have hde : de = if 200 < i then 2 else 0 := by
        have := manyDef i (by omega) (by omega)
        rw [hd] at this
        exact this
      have DEF : Hid (∀ X x u, PgV X initM x → SyV X (manyQ i) u → Calls Tryd.prog 7 #[x, .agg #[.string ⟨#[109, 97, 110, 121]⟩, u]] X (RetD X (dl, de))) := fun X x u hx hu => by
        have := defineY initM x ⟨#[109, 97, 110, 121]⟩ (manyQ i) u X hx hu (by simp [initM]) (fun p hp => by simp [initM] at hp; subst hp; simp) (by rw [manyQ_length]; omega)
        rwa [hd] at this
      clear hd
      have hcase : (de = 2 ∧ (200 : Int) < 199 + (r : Int)) ∨ (de = 0 ∧ ¬ (200 : Int) < 199 + (r : Int)) := by
        by_cases h200 : 200 < i
        · rw [if_pos h200] at hde; exact .inl ⟨hde, by omega⟩
        · rw [if_neg h200] at hde; exact .inr ⟨hde, by omega⟩
      clear hde hiE hE
      rcases hcase with ⟨rfl, h200⟩ | ⟨rfl, h200⟩
      all_goals
        go_upto_region 9 with fail
        go_region_held3 (fun W' => W'.cell? ⟨w1.heap.size, 0, none⟩ = some (.string ⟨#[109, 97, 110, 121]⟩) ∧ W'.cell? ⟨w1.heap.size, 1, none⟩ = some sl) (go_keep)
          ((first
            | (go_at_call 8; refine (initialY _).mono ?_; rintro e w5 ⟨x, rfl, hx, hb⟩; have HX5 := Lib.hid hx; have HW5 : Hid (Below wo.heap.size wo w5) := (by first | exact hb | exact chainY (bDrewP (Below.refl _ _)) hb (Nat.le_refl _)); have HP5 := Lib.hid (PB.keep HP.out HW5.out); clear m0 m1 hx hb; have m0 := HP5.out.c0; have m1 := HP5.out.c1)
            | (go_at_call 7; refine (DEF.out _ _ _ HX5.out (HS.out.keep HW5.out)).mono ?_; rintro e w6 ⟨y, rfl, hy, hb⟩; have HW6 := Lib.hid (chainY HW5.out hb (Nat.le_refl _)); have HP6 := Lib.hid (PB.keep HP5.out hb); clear m0 m1 hy hb; have m0 := HP6.out.c0; have m1 := HP6.out.c1)))
        go_wp2_with fail
        go_ret
        exact ⟨rfl, chainY HB1.out (chainY HBo.out HW6.out (Nat.le_refl _)) (Nat.le_refl _)⟩
end Go.Proofs.YtcgchacokcnacaaDoor
