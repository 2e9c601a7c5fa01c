/- The reference: Put. -/
import Derived.Test.YtinjhnnpbejccaaGreatDoorH19
import Derived.Test.YtinjhnnpbejccaaGreatDoorH24
import Derived.Test.YtinjhnnpbejccaaGreatDoorH30
import Derived.Test.YtinjhnnpbejccaaGreatDoorH29
import Derived.Test.YtinjhnnpbejccaaGreatDoorH25
import Derived.Test.YtinjhnnpbejccaaGreatDoorH21
import Derived.Laws.EntriesVeiled
import Derived.Test.YtinjhnnpbejccaaGreatDoorH23
import Derived.Deep.Upon
import Derived.Test.YtinjhnnpbejccaaGreatDoorH11
namespace Go.Proofs.YtinjhnnpbejccaaGreatDoor
open Go Go.RowKit
set_option linter.unusedVariables false
set_option maxHeartbeats 32000000
set_option maxRecDepth 100000
section
variable {Q : Exit → Act → World → Prop} {K : Act → World → Prop} {ops : Array Oper} {a : Act} {w : World} {i : Nat} {o : Oper}
theorem gw_sl1 (ho : ops[i]? = some o) (hw : Region.wanted o (yielded ops a.tmps) = true) (s : Tmp) (b q n c : Nat) (hop : o.op = Op.slice 58 (.tmp s) (some (.const (.int .i64 1))) none none) (hx : a.tmps[s]? = some (.slice (some ⟨b, q, none⟩) (n + 1) c)) (hK : K (a.put o.dst (.slice (if c = 1 then some ⟨b, q, none⟩ else some ⟨b, q + 1, none⟩) n (c - 1))) w) : wpOp Tryz.prog ops Q i K a w :=
 wpOp_step ho fun K' hK' => by
  rw [if_pos hw]
  unfold Oper.wp
  have h1 : (1 : Int) ≤ (n : Int) + 1 := by omega
  simp only [execOp, hop]
  go_simp
  by_cases hc : c = 1
  · subst hc
    simp at hK ⊢
    exact hK' _ _ hK
  · simp [hc] at hK ⊢
    exact hK' _ _ hK
end
theorem IsV.tail {w : World} {S : Nat → Prop} {i : Int} {p : List Int} {b q c : Nat} (h : IsV w S (i :: p) (.slice (some ⟨b, q, none⟩) (p.length + 1) c)) : IsV w S p (.slice (if c = 1 then some ⟨b, q, none⟩ else some ⟨b, q + 1, none⟩) p.length (c - 1)) := by
 obtain ⟨A, c', e, h1, h2⟩ := h
 obtain ⟨b', o', e2, hS, hr⟩ := h2 (by simp)
 subst e2
 injection e with e1 e3 e4
 injection e1 with e1
 injection e1 with e1 e5
 subst e1; subst e4
 have e6 : q = o' := e5
 subst e6
 simp only [List.length_cons] at h1
 refine ⟨_, _, rfl, by omega, fun hl => ⟨b, q + 1, by rw [if_neg (by omega)], hS, fun j hj => ?_⟩⟩
 have := hr (j + 1) (by simp; omega)
 rw [show q + (j + 1) = q + 1 + j from by omega] at this
 exact this
theorem putO_neg {t n : Tm} {i : Int} {p : List Int} (h : i < 0) : putO t (i :: p) n = none := by
 have e : atP t (i :: p) = none := by
  unfold atP
  rw [if_neg (show ¬ (0 : Int) ≤ i by omega)]
 unfold putO
 rw [e]; rfl
theorem putO_far {t n : Tm} {i : Int} {p : List Int} (h0 : 0 ≤ i) (h : (t.args.length : Int) ≤ i) : putO t (i :: p) n = none := by
 have e : atP t (i :: p) = none := by
  unfold atP
  rw [if_pos h0, List.getElem?_eq_none (by omega)]
 unfold putO
 rw [e]; rfl
theorem putO_cons {t n : Tm} {m : Nat} {p : List Int} (hm : m < t.args.length) : putO t ((m : Int) :: p) n = (putO t.args[m] p n).map fun y => .app t.nm (t.args.set m y) := by
 have ea : atP t ((m : Int) :: p) = atP t.args[m] p := by
  show (match (if (0 : Int) ≤ (m : Int) then t.args[((m : Nat) : Int).toNat]? else none) with | some x => atP x p | none => none) = _
  rw [if_pos (by omega), Int.toNat_natCast, List.getElem?_eq_getElem hm]
 have ep : putP t ((m : Int) :: p) n = .app t.nm (t.args.set m (putP t.args[m] p n)) := by
  show Tm.app t.nm (t.args.set ((m : Nat) : Int).toNat (putP (t.args.getD ((m : Nat) : Int).toNat t) p n)) = _
  rw [Int.toNat_natCast]
  simp [List.getD, List.getElem?_eq_getElem hm]
 unfold putO
 rw [ea, ep]
 by_cases h : (atP t.args[m] p).isSome = true
 · rw [if_pos h, if_pos h]; rfl
 · rw [if_neg h, if_neg h]; rfl
theorem mkT_append {w w' : World} {S : Nat → Prop} {l : List Tm} {xs : List (List Value)} {v' : Value} (hS : In S w) (k1 : xs.length = l.length) (k2 : ∀ i (hi : i < l.length) (hx : i < xs.length), TmAt w S l[i] xs[i])
 (ho : w'.ownsRow w.heap.size 35 11 v' (0 + l.length) ([] ++ xs.flatten)) (hg : (w.alloc (.cells #[] 35)).grownBy w' (some w.heap.size)) : MkT S w w' l v' xs := by
 have hb : Below w.heap.size w w' := (below_alT w _).grown hg (by simp) (fun k hk => by injection hk with hk; omega)
 refine ⟨k1, by simpa using ho, fun i hi hx => ?_, hb⟩
 exact TmAt.keep (fun b hb' => ⟨.inl hb', by have := hS b hb'; have := hb.size; omega, fun e => by have := (own_lt ho b e).1; have := hS b hb'; omega⟩) (fun b hb' => hb.block b (hS b hb')) _ _ (k2 i hi hx)
section
variable {Q : Exit → Act → World → Prop} {K : Act → World → Prop} {ops : Array Oper} {a : Act} {w : World} {i : Nat} {o : Oper}
theorem gw_ldT (cs : List Value) (ho : ops[i]? = some o) (hw : Region.wanted o (yielded ops a.tmps) = true) (s : Tmp) {g : Nat} (hop : o.op = Op.load 35 (.tmp s)) (hx : a.tmps[s]? = some (.pointer (some ⟨g, 0, none⟩))) (hb : TB w g cs) (hs : cs.length = 11)
 (hK : K (a.put o.dst (vTm cs)) w) : wpOp Tryz.prog ops Q i K a w :=
 wpOp_step ho fun K' hK' => by
  rw [if_pos hw]
  exact wp_load_row 35 (.tmp s) hop g (eval_of hx) _ _ _ _ hb Tryz.underlying35 rfl (by rw [List.size_toArray, hs]; kernel_rfl) (hK' _ _ hK)
end
theorem putR (n : Tm) (S : Nat → Prop) : ∀ (p : List Int) (t : Tm) (w : World) (cs cn : List Value) (pv : Value), In S w → t.nodes ≤ 3000 → TmAt w S t cs → TmAt w S n cn → IsV w S p pv → p.length ≤ 100000 →
 Calls Tryz.prog 45 #[vTm cs, pv, vTm cn] w (RetA w S (putO t p n)) := by
 intro p
 induction p with
 | nil =>
  intro t w cs cn pv hS hnd h hnw hp hpl
  have h' := h
  have hn' := hnw
  obtain ⟨x0, x1, x2, x3, x4, x5, x6, A, c, rfl, _, ha⟩ := h'.eleven
  obtain ⟨y0, y1, y2, y3, y4, y5, y6, A2, c2, rfl, _, _⟩ := hn'.eleven
  obtain ⟨Ap, cp, rfl, _, _⟩ := hp
  have hA : Below w.heap.size w (((w.alloc (.cells #[.int .i64 t.kd, .string t.nm.1, .string t.nm.2, x0, x1, x2, x3, x4, x5, x6, .slice A t.args.length c] 35)).alloc (.cells #[.int .i64 n.kd, .string n.nm.1, .string n.nm.2, y0, y1, y2, y3, y4, y5, y6, .slice A2 n.args.length c2] 35)).alloc (.cells #[.int .i64 0, .string ⟨#[]⟩, .string ⟨#[]⟩, .int .i64 0, .string ⟨#[]⟩, .string ⟨#[]⟩, .string ⟨#[]⟩, .string ⟨#[]⟩, .string ⟨#[]⟩, .slice none 0 0, .slice none 0 0] 35)) := Below.alloc (Below.alloc (Below.alloc (Below.refl _ _) (Nat.le_refl _) _) (by simp) _) (by simp <;> omega) _
  have H5 : Hid (TB (((w.alloc (.cells #[.int .i64 t.kd, .string t.nm.1, .string t.nm.2, x0, x1, x2, x3, x4, x5, x6, .slice A t.args.length c] 35)).alloc (.cells #[.int .i64 n.kd, .string n.nm.1, .string n.nm.2, y0, y1, y2, y3, y4, y5, y6, .slice A2 n.args.length c2] 35)).alloc (.cells #[.int .i64 0, .string ⟨#[]⟩, .string ⟨#[]⟩, .int .i64 0, .string ⟨#[]⟩, .string ⟨#[]⟩, .string ⟨#[]⟩, .string ⟨#[]⟩, .string ⟨#[]⟩, .slice none 0 0, .slice none 0 0] 35)) (w.heap.size + 1) [.int .i64 n.kd, .string n.nm.1, .string n.nm.2, y0, y1, y2, y3, y4, y5, y6, .slice A2 n.args.length c2]) := (Below.heap_alloc _ _ _ (by simp <;> omega)).trans (heap_new_at (by simp))
  have H6 : Hid (TB (((w.alloc (.cells #[.int .i64 t.kd, .string t.nm.1, .string t.nm.2, x0, x1, x2, x3, x4, x5, x6, .slice A t.args.length c] 35)).alloc (.cells #[.int .i64 n.kd, .string n.nm.1, .string n.nm.2, y0, y1, y2, y3, y4, y5, y6, .slice A2 n.args.length c2] 35)).alloc (.cells #[.int .i64 0, .string ⟨#[]⟩, .string ⟨#[]⟩, .int .i64 0, .string ⟨#[]⟩, .string ⟨#[]⟩, .string ⟨#[]⟩, .string ⟨#[]⟩, .string ⟨#[]⟩, .slice none 0 0, .slice none 0 0] 35)) (w.heap.size + 1 + 1) zT) := heap_new_at (by simp)
  have ON := hI hnw.o11
  have hN1 : TmAt (((w.alloc (.cells #[.int .i64 t.kd, .string t.nm.1, .string t.nm.2, x0, x1, x2, x3, x4, x5, x6, .slice A t.args.length c] 35)).alloc (.cells #[.int .i64 n.kd, .string n.nm.1, .string n.nm.2, y0, y1, y2, y3, y4, y5, y6, .slice A2 n.args.length c2] 35)).alloc (.cells #[.int .i64 0, .string ⟨#[]⟩, .string ⟨#[]⟩, .int .i64 0, .string ⟨#[]⟩, .string ⟨#[]⟩, .string ⟨#[]⟩, .string ⟨#[]⟩, .string ⟨#[]⟩, .slice none 0 0, .slice none 0 0] 35)) (Upto w (((w.alloc (.cells #[.int .i64 t.kd, .string t.nm.1, .string t.nm.2, x0, x1, x2, x3, x4, x5, x6, .slice A t.args.length c] 35)).alloc (.cells #[.int .i64 n.kd, .string n.nm.1, .string n.nm.2, y0, y1, y2, y3, y4, y5, y6, .slice A2 n.args.length c2] 35)).alloc (.cells #[.int .i64 0, .string ⟨#[]⟩, .string ⟨#[]⟩, .int .i64 0, .string ⟨#[]⟩, .string ⟨#[]⟩, .string ⟨#[]⟩, .string ⟨#[]⟩, .string ⟨#[]⟩, .slice none 0 0, .slice none 0 0] 35)) S) n [.int .i64 n.kd, .string n.nm.1, .string n.nm.2, y0, y1, y2, y3, y4, y5, y6, .slice A2 n.args.length c2] := (hnw.below hS hA).more (fun b hb => .inl hb)
  have HR : Hid (RetTB w S n true (.returned (.tuple #[vTm [.int .i64 n.kd, .string n.nm.1, .string n.nm.2, y0, y1, y2, y3, y4, y5, y6, .slice A2 n.args.length c2], .bool true])) ((((w.alloc (.cells #[.int .i64 t.kd, .string t.nm.1, .string t.nm.2, x0, x1, x2, x3, x4, x5, x6, .slice A t.args.length c] 35)).alloc (.cells #[.int .i64 n.kd, .string n.nm.1, .string n.nm.2, y0, y1, y2, y3, y4, y5, y6, .slice A2 n.args.length c2] 35)).alloc (.cells #[.int .i64 0, .string ⟨#[]⟩, .string ⟨#[]⟩, .int .i64 0, .string ⟨#[]⟩, .string ⟨#[]⟩, .string ⟨#[]⟩, .string ⟨#[]⟩, .string ⟨#[]⟩, .slice none 0 0, .slice none 0 0] 35)).setRow (w.heap.size + 1 + 1) #[.int .i64 n.kd, .string n.nm.1, .string n.nm.2, y0, y1, y2, y3, y4, y5, y6, .slice A2 n.args.length c2])) := ⟨_, rfl, TmAt.boxed hN1 H6.out.nb _, below_setRowO hA (by omega) _⟩
  have hR : putO t [] n = some n := rfl
  rw [hR]
  simp only [List.length_nil]
  unfold vTm
  clear h h' hnw hn' hA hN1 ha
  go_enter Tryz.func45, Tryz.ntmps45
  go_upto_region 1 with fail
  generalize (((w.alloc (.cells #[.int .i64 t.kd, .string t.nm.1, .string t.nm.2, x0, x1, x2, x3, x4, x5, x6, .slice A t.args.length c] 35)).alloc (.cells #[.int .i64 n.kd, .string n.nm.1, .string n.nm.2, y0, y1, y2, y3, y4, y5, y6, .slice A2 n.args.length c2] 35)).alloc (.cells #[.int .i64 0, .string ⟨#[]⟩, .string ⟨#[]⟩, .int .i64 0, .string ⟨#[]⟩, .string ⟨#[]⟩, .string ⟨#[]⟩, .string ⟨#[]⟩, .string ⟨#[]⟩, .slice none 0 0, .slice none 0 0] 35)) = Y at *
  go_wp2_with (first | ((with_reducible refine loadTb (cs := [.int .i64 n.kd, .string n.nm.1, .string n.nm.2, y0, y1, y2, y3, y4, y5, y6, .slice A2 n.args.length c2]) (.tmp 5) ?_ ?_ ?_ H5.out ?_ ?_); rfl; rfl; rfl; rfl) | ((with_reducible refine storeTb (cs := [.int .i64 n.kd, .string n.nm.1, .string n.nm.2, y0, y1, y2, y3, y4, y5, y6, .slice A2 n.args.length c2]) (.tmp 6) (.tmp 15) ?_ ?_ ?_ ?_ H6.out ?_ ?_ ?_ ?_); rfl; rfl; rfl; rfl; rfl; rfl; exact ON.out.2))
  exact retTbx rfl rfl rfl (H6.out.set _) rfl HR.out
 | cons i p ih =>
  intro t w cs cn pv hS hnd h hnw hp hpl
  have h' := h
  have hn' := hnw
  have hp' := hp
  obtain ⟨x0, x1, x2, x3, x4, x5, x6, A, c, rfl, _, ha⟩ := h'.eleven
  obtain ⟨y0, y1, y2, y3, y4, y5, y6, A2, c2, rfl, _, _⟩ := hn'.eleven
  obtain ⟨Ap, cp, rfl, hlc, hpc⟩ := hp'
  obtain ⟨bp, op, rfl, hSp, hcell⟩ := hpc (by simp)
  have p0 := hcell 0 (by simp)
  simp only [List.length_cons, Nat.add_zero, List.getElem_cons_zero] at p0 hlc hpl hp ⊢
  have hA : Below w.heap.size w (((w.alloc (.cells #[.int .i64 t.kd, .string t.nm.1, .string t.nm.2, x0, x1, x2, x3, x4, x5, x6, .slice A t.args.length c] 35)).alloc (.cells #[.int .i64 n.kd, .string n.nm.1, .string n.nm.2, y0, y1, y2, y3, y4, y5, y6, .slice A2 n.args.length c2] 35)).alloc (.cells #[.int .i64 0, .string ⟨#[]⟩, .string ⟨#[]⟩, .int .i64 0, .string ⟨#[]⟩, .string ⟨#[]⟩, .string ⟨#[]⟩, .string ⟨#[]⟩, .string ⟨#[]⟩, .slice none 0 0, .slice none 0 0] 35)) := Below.alloc (Below.alloc (Below.alloc (Below.refl _ _) (Nat.le_refl _) _) (by simp) _) (by simp <;> omega) _
  have H3 : Hid (TB (((w.alloc (.cells #[.int .i64 t.kd, .string t.nm.1, .string t.nm.2, x0, x1, x2, x3, x4, x5, x6, .slice A t.args.length c] 35)).alloc (.cells #[.int .i64 n.kd, .string n.nm.1, .string n.nm.2, y0, y1, y2, y3, y4, y5, y6, .slice A2 n.args.length c2] 35)).alloc (.cells #[.int .i64 0, .string ⟨#[]⟩, .string ⟨#[]⟩, .int .i64 0, .string ⟨#[]⟩, .string ⟨#[]⟩, .string ⟨#[]⟩, .string ⟨#[]⟩, .string ⟨#[]⟩, .slice none 0 0, .slice none 0 0] 35)) w.heap.size [.int .i64 t.kd, .string t.nm.1, .string t.nm.2, x0, x1, x2, x3, x4, x5, x6, .slice A t.args.length c]) := (Below.heap_alloc _ _ _ (by simp <;> omega)).trans ((Below.heap_alloc _ _ _ (by simp)).trans (heap_alloc_new w _))
  have H5 : Hid (TB (((w.alloc (.cells #[.int .i64 t.kd, .string t.nm.1, .string t.nm.2, x0, x1, x2, x3, x4, x5, x6, .slice A t.args.length c] 35)).alloc (.cells #[.int .i64 n.kd, .string n.nm.1, .string n.nm.2, y0, y1, y2, y3, y4, y5, y6, .slice A2 n.args.length c2] 35)).alloc (.cells #[.int .i64 0, .string ⟨#[]⟩, .string ⟨#[]⟩, .int .i64 0, .string ⟨#[]⟩, .string ⟨#[]⟩, .string ⟨#[]⟩, .string ⟨#[]⟩, .string ⟨#[]⟩, .slice none 0 0, .slice none 0 0] 35)) (w.heap.size + 1) [.int .i64 n.kd, .string n.nm.1, .string n.nm.2, y0, y1, y2, y3, y4, y5, y6, .slice A2 n.args.length c2]) := (Below.heap_alloc _ _ _ (by simp <;> omega)).trans (heap_new_at (by simp))
  have H6 : Hid (TB (((w.alloc (.cells #[.int .i64 t.kd, .string t.nm.1, .string t.nm.2, x0, x1, x2, x3, x4, x5, x6, .slice A t.args.length c] 35)).alloc (.cells #[.int .i64 n.kd, .string n.nm.1, .string n.nm.2, y0, y1, y2, y3, y4, y5, y6, .slice A2 n.args.length c2] 35)).alloc (.cells #[.int .i64 0, .string ⟨#[]⟩, .string ⟨#[]⟩, .int .i64 0, .string ⟨#[]⟩, .string ⟨#[]⟩, .string ⟨#[]⟩, .string ⟨#[]⟩, .string ⟨#[]⟩, .slice none 0 0, .slice none 0 0] 35)) (w.heap.size + 1 + 1) zT) := heap_new_at (by simp)
  have HSY : Hid (In S (((w.alloc (.cells #[.int .i64 t.kd, .string t.nm.1, .string t.nm.2, x0, x1, x2, x3, x4, x5, x6, .slice A t.args.length c] 35)).alloc (.cells #[.int .i64 n.kd, .string n.nm.1, .string n.nm.2, y0, y1, y2, y3, y4, y5, y6, .slice A2 n.args.length c2] 35)).alloc (.cells #[.int .i64 0, .string ⟨#[]⟩, .string ⟨#[]⟩, .int .i64 0, .string ⟨#[]⟩, .string ⟨#[]⟩, .string ⟨#[]⟩, .string ⟨#[]⟩, .string ⟨#[]⟩, .slice none 0 0, .slice none 0 0] 35))) := hS.later hA.size
  have HN : Hid (TmAt (((w.alloc (.cells #[.int .i64 t.kd, .string t.nm.1, .string t.nm.2, x0, x1, x2, x3, x4, x5, x6, .slice A t.args.length c] 35)).alloc (.cells #[.int .i64 n.kd, .string n.nm.1, .string n.nm.2, y0, y1, y2, y3, y4, y5, y6, .slice A2 n.args.length c2] 35)).alloc (.cells #[.int .i64 0, .string ⟨#[]⟩, .string ⟨#[]⟩, .int .i64 0, .string ⟨#[]⟩, .string ⟨#[]⟩, .string ⟨#[]⟩, .string ⟨#[]⟩, .string ⟨#[]⟩, .slice none 0 0, .slice none 0 0] 35)) S n [.int .i64 n.kd, .string n.nm.1, .string n.nm.2, y0, y1, y2, y3, y4, y5, y6, .slice A2 n.args.length c2]) := hnw.below hS hA
  have HT : Hid (TmAt (((w.alloc (.cells #[.int .i64 t.kd, .string t.nm.1, .string t.nm.2, x0, x1, x2, x3, x4, x5, x6, .slice A t.args.length c] 35)).alloc (.cells #[.int .i64 n.kd, .string n.nm.1, .string n.nm.2, y0, y1, y2, y3, y4, y5, y6, .slice A2 n.args.length c2] 35)).alloc (.cells #[.int .i64 0, .string ⟨#[]⟩, .string ⟨#[]⟩, .int .i64 0, .string ⟨#[]⟩, .string ⟨#[]⟩, .string ⟨#[]⟩, .string ⟨#[]⟩, .string ⟨#[]⟩, .slice none 0 0, .slice none 0 0] 35)) S t [.int .i64 t.kd, .string t.nm.1, .string t.nm.2, x0, x1, x2, x3, x4, x5, x6, .slice A t.args.length c]) := h.below hS hA
  have HIV : Hid (IsV (((w.alloc (.cells #[.int .i64 t.kd, .string t.nm.1, .string t.nm.2, x0, x1, x2, x3, x4, x5, x6, .slice A t.args.length c] 35)).alloc (.cells #[.int .i64 n.kd, .string n.nm.1, .string n.nm.2, y0, y1, y2, y3, y4, y5, y6, .slice A2 n.args.length c2] 35)).alloc (.cells #[.int .i64 0, .string ⟨#[]⟩, .string ⟨#[]⟩, .int .i64 0, .string ⟨#[]⟩, .string ⟨#[]⟩, .string ⟨#[]⟩, .string ⟨#[]⟩, .string ⟨#[]⟩, .slice none 0 0, .slice none 0 0] 35)) S (i :: p) (.slice (some ⟨bp, op, none⟩) (p.length + 1) cp)) := hp.below hS hA
  have ON := hI hnw.o11
  have OT := hI h.o11
  have IH : Hid (∀ x ∈ t.args, ∀ X cx pv, Below (((w.alloc (.cells #[.int .i64 t.kd, .string t.nm.1, .string t.nm.2, x0, x1, x2, x3, x4, x5, x6, .slice A t.args.length c] 35)).alloc (.cells #[.int .i64 n.kd, .string n.nm.1, .string n.nm.2, y0, y1, y2, y3, y4, y5, y6, .slice A2 n.args.length c2] 35)).alloc (.cells #[.int .i64 0, .string ⟨#[]⟩, .string ⟨#[]⟩, .int .i64 0, .string ⟨#[]⟩, .string ⟨#[]⟩, .string ⟨#[]⟩, .string ⟨#[]⟩, .string ⟨#[]⟩, .slice none 0 0, .slice none 0 0] 35)).heap.size (((w.alloc (.cells #[.int .i64 t.kd, .string t.nm.1, .string t.nm.2, x0, x1, x2, x3, x4, x5, x6, .slice A t.args.length c] 35)).alloc (.cells #[.int .i64 n.kd, .string n.nm.1, .string n.nm.2, y0, y1, y2, y3, y4, y5, y6, .slice A2 n.args.length c2] 35)).alloc (.cells #[.int .i64 0, .string ⟨#[]⟩, .string ⟨#[]⟩, .int .i64 0, .string ⟨#[]⟩, .string ⟨#[]⟩, .string ⟨#[]⟩, .string ⟨#[]⟩, .string ⟨#[]⟩, .slice none 0 0, .slice none 0 0] 35)) X → TmAt X S x cx → IsV X S p pv → Calls Tryz.prog 45 #[vTm cx, pv, .agg #[.int .i64 n.kd, .string n.nm.1, .string n.nm.2, y0, y1, y2, y3, y4, y5, y6, .slice A2 n.args.length c2]] X (RetA X S (putO x p n))) := fun x hx X cx pv hX hx2 hpx => ih x X cx _ pv (HSY.out.later hX.size) (by have := Tm.nodes_mem hx; have := t.nodes_args; omega) hx2 (HN.out.below HSY.out hX) hpx (by omega)
  have AR : Hid (Calls Tryz.prog 74 #[.agg #[.int .i64 t.kd, .string t.nm.1, .string t.nm.2, x0, x1, x2, x3, x4, x5, x6, .slice A t.args.length c]] (((w.alloc (.cells #[.int .i64 t.kd, .string t.nm.1, .string t.nm.2, x0, x1, x2, x3, x4, x5, x6, .slice A t.args.length c] 35)).alloc (.cells #[.int .i64 n.kd, .string n.nm.1, .string n.nm.2, y0, y1, y2, y3, y4, y5, y6, .slice A2 n.args.length c2] 35)).alloc (.cells #[.int .i64 0, .string ⟨#[]⟩, .string ⟨#[]⟩, .int .i64 0, .string ⟨#[]⟩, .string ⟨#[]⟩, .string ⟨#[]⟩, .string ⟨#[]⟩, .string ⟨#[]⟩, .slice none 0 0, .slice none 0 0] 35)) (RetAr (((w.alloc (.cells #[.int .i64 t.kd, .string t.nm.1, .string t.nm.2, x0, x1, x2, x3, x4, x5, x6, .slice A t.args.length c] 35)).alloc (.cells #[.int .i64 n.kd, .string n.nm.1, .string n.nm.2, y0, y1, y2, y3, y4, y5, y6, .slice A2 n.args.length c2] 35)).alloc (.cells #[.int .i64 0, .string ⟨#[]⟩, .string ⟨#[]⟩, .int .i64 0, .string ⟨#[]⟩, .string ⟨#[]⟩, .string ⟨#[]⟩, .string ⟨#[]⟩, .string ⟨#[]⟩, .slice none 0 0, .slice none 0 0] 35)) S t.args)) := argsR t _ (((w.alloc (.cells #[.int .i64 t.kd, .string t.nm.1, .string t.nm.2, x0, x1, x2, x3, x4, x5, x6, .slice A t.args.length c] 35)).alloc (.cells #[.int .i64 n.kd, .string n.nm.1, .string n.nm.2, y0, y1, y2, y3, y4, y5, y6, .slice A2 n.args.length c2] 35)).alloc (.cells #[.int .i64 0, .string ⟨#[]⟩, .string ⟨#[]⟩, .int .i64 0, .string ⟨#[]⟩, .string ⟨#[]⟩, .string ⟨#[]⟩, .string ⟨#[]⟩, .string ⟨#[]⟩, .slice none 0 0, .slice none 0 0] 35)) S HT.out
  have P0 : Hid ((((w.alloc (.cells #[.int .i64 t.kd, .string t.nm.1, .string t.nm.2, x0, x1, x2, x3, x4, x5, x6, .slice A t.args.length c] 35)).alloc (.cells #[.int .i64 n.kd, .string n.nm.1, .string n.nm.2, y0, y1, y2, y3, y4, y5, y6, .slice A2 n.args.length c2] 35)).alloc (.cells #[.int .i64 0, .string ⟨#[]⟩, .string ⟨#[]⟩, .int .i64 0, .string ⟨#[]⟩, .string ⟨#[]⟩, .string ⟨#[]⟩, .string ⟨#[]⟩, .string ⟨#[]⟩, .slice none 0 0, .slice none 0 0] 35)).cell? ⟨bp, op, none⟩ = some (.int .i64 i)) := (hA.cell (p := ⟨bp, op, none⟩) (hS bp hSp)).trans p0
  have HLBP : Hid (bp < (((w.alloc (.cells #[.int .i64 t.kd, .string t.nm.1, .string t.nm.2, x0, x1, x2, x3, x4, x5, x6, .slice A t.args.length c] 35)).alloc (.cells #[.int .i64 n.kd, .string n.nm.1, .string n.nm.2, y0, y1, y2, y3, y4, y5, y6, .slice A2 n.args.length c2] 35)).alloc (.cells #[.int .i64 0, .string ⟨#[]⟩, .string ⟨#[]⟩, .int .i64 0, .string ⟨#[]⟩, .string ⟨#[]⟩, .string ⟨#[]⟩, .string ⟨#[]⟩, .string ⟨#[]⟩, .slice none 0 0, .slice none 0 0] 35)).heap.size) := World.block_lt_of_cell? _ _ P0.out
  have HA := hI hA
  have hlen : t.args.length ≤ 3000 := by have := t.nodes_args; have := Tm.nodesL_len t.args; omega
  have HLE := hI hlen
  unfold vTm
  have hz1 : (((p.length : Int) + 1) == 0) = false := by rw [beq_eq_false_iff_ne]; omega
  have hz2 : (((p.length + 1 : Nat) : Int) == 0) = false := by rw [beq_eq_false_iff_ne]; omega
  clear h h' hnw hn' hA hS ih ha hp hpc hcell p0 hSp hlen
  go_enter Tryz.func45, Tryz.ntmps45
  go_upto_region 1 with fail
  generalize (((w.alloc (.cells #[.int .i64 t.kd, .string t.nm.1, .string t.nm.2, x0, x1, x2, x3, x4, x5, x6, .slice A t.args.length c] 35)).alloc (.cells #[.int .i64 n.kd, .string n.nm.1, .string n.nm.2, y0, y1, y2, y3, y4, y5, y6, .slice A2 n.args.length c2] 35)).alloc (.cells #[.int .i64 0, .string ⟨#[]⟩, .string ⟨#[]⟩, .int .i64 0, .string ⟨#[]⟩, .string ⟨#[]⟩, .string ⟨#[]⟩, .string ⟨#[]⟩, .string ⟨#[]⟩, .slice none 0 0, .slice none 0 0] 35)) = Y at *
  have HG6 : Hid (w.heap.size ≤ w.heap.size + 1 + 1) := (show _ ≤ _ by omega)
  generalize w.heap.size + 1 + 1 = g6 at H6 HG6 ⊢
  generalize w.heap.size + 1 = g5 at H5 ⊢
  obtain ⟨g3, hg3⟩ : ∃ g, w.heap.size = g := ⟨_, rfl⟩
  rw [hg3] at H3 ⊢
  clear hg3
  go_wp2_with ((with_reducible refine loadTb (cs := [.int .i64 t.kd, .string t.nm.1, .string t.nm.2, x0, x1, x2, x3, x4, x5, x6, .slice A t.args.length c]) (.tmp 3) ?_ ?_ ?_ H3.out ?_ ?_); rfl; rfl; rfl; rfl)
  refine AR.out.mono ?_
  rintro e w1 ⟨A9, c9, rfl, ha9, hb1⟩
  replace H3 := hI (H3.out.keep hb1)
  replace H5 := hI (H5.out.keep hb1)
  replace H6 := hI (H6.out.keep hb1)
  have HBW : Hid (Below w.heap.size w w1) := HA.out.trans (hb1.mono HA.out.size)
  have HB1 := hI hb1
  have q0 := (hb1.cell (p := ⟨bp, op, none⟩) HLBP.out).trans P0.out
  have HAR : Hid (ArgsAt w1 S t.args A9 c9) := ha9.below HSY.out hb1
  have hc9 := ha9.1
  clear hb1 AR ha9
  obtain ⟨L, hL⟩ : ∃ L, t.args.length = L := ⟨_, rfl⟩
  have HL := hI hL
  rw [hL] at hc9 ⊢
  by_cases hi0 : i < 0
  · have HNO := hI (putO_neg (t := t) (n := n) (p := p) hi0)
    clear hL
    go_wp2_with ((with_reducible refine storeTb (cs := zT) (.tmp 6) (.tmp 30) ?_ ?_ ?_ ?_ H6.out ?_ ?_ ?_ ?_); rfl; rfl; rfl; rfl; rfl; rfl; exact zT_one)
    exact retTbx rfl rfl rfl (H6.out.set _) rfl (show RetA _ _ _ _ _ by rw [HNO.out]; exact ⟨rfl, below_setRowO HBW.out HG6.out _⟩)
  · by_cases hiL : (L : Int) ≤ i
    · have HNO := hI (putO_far (t := t) (n := n) (p := p) (i := i) (by omega) (by rw [hL]; exact hiL))
      clear hL
      have hge : ¬ i < (L : Int) := by omega
      go_wp2_with ((with_reducible refine storeTb (cs := zT) (.tmp 6) (.tmp 30) ?_ ?_ ?_ ?_ H6.out ?_ ?_ ?_ ?_); rfl; rfl; rfl; rfl; rfl; rfl; exact zT_one)
      exact retTbx rfl rfl rfl (H6.out.set _) rfl (show RetA _ _ _ _ _ by rw [HNO.out]; exact ⟨rfl, below_setRowO HBW.out HG6.out _⟩)
    · obtain ⟨m, rfl⟩ : ∃ m : Nat, i = m := ⟨i.toNat, by omega⟩
      have hml : (m : Int) < (L : Int) := by omega
      have hmn : m < t.args.length := by omega
      have HML := hI hml
      obtain ⟨ba, oa, cx, rfl, hP⟩ := HAR.out.arg hmn
      have htm : t.args[m] ∈ t.args := List.getElem_mem hmn
      have HPC := hI (putO_cons (p := p) (n := n) hmn)
      have HMN := hI hmn
      generalize t.args[m] = x at hP htm HPC
      obtain ⟨wo, rfl⟩ : ∃ wo : World, wo = w1 := ⟨_, rfl⟩
      have HSO : Hid (In S wo) := HSY.out.later HB1.out.size
      have HWO : Hid (w.heap.size ≤ wo.heap.size) := HBW.out.size
      obtain ⟨z0, z1, z2, z3, z4, z5, z6, A5, c5, rfl, hva, har2, k0, k1, k2, k3, k4, k5, k6, k7, k8, k9, k10⟩ := hP.cells
      have HX := hI hP.2.1
      have HIV1 : Hid (IsV wo S p (.slice (if cp = 1 then some ⟨bp, op, none⟩ else some ⟨bp, op + 1, none⟩) p.length (cp - 1))) := (HIV.out.below HSY.out HB1.out).tail
      have CALL : Hid (∀ X, Below wo.heap.size wo X → Calls Tryz.prog 45 #[.agg #[.int .i64 x.kd, .string x.nm.1, .string x.nm.2, z0, z1, z2, z3, z4, z5, z6, .slice A5 x.args.length c5], .slice (if cp = 1 then some ⟨bp, op, none⟩ else some ⟨bp, op + 1, none⟩) p.length (cp - 1), .agg #[.int .i64 n.kd, .string n.nm.1, .string n.nm.2, y0, y1, y2, y3, y4, y5, y6, .slice A2 n.args.length c2]] X (RetA X S (putO x p n))) := fun X hX => IH.out x htm X _ _ (HB1.out.trans (hX.mono HB1.out.size)) (HX.out.below HSO.out hX) (HIV1.out.below HSO.out hX)
      have HBA : Hid (ba < wo.heap.size) := HSO.out ba hP.1.1
      have HBP : Hid (bp < wo.heap.size) := Nat.lt_of_lt_of_le HLBP.out HB1.out.size
      have HP0 := hI q0
      have K0 := hI k0
      have K1 := hI k1
      have K2 := hI k2
      have K3 := hI k3
      have K4 := hI k4
      have K5 := hI k5
      have K6 := hI k6
      have K7 := hI k7
      have K8 := hI k8
      have K9 := hI k9
      have K10 := hI k10
      have hni : ¬ (m : Int) < 0 := hi0
      have hnL : ¬ (L : Int) ≤ (m : Int) := hiL
      clear hP htm hva har2 k0 k1 k2 k3 k4 k5 k6 k7 k8 k9 k10 IH hL hmn HIV HIV1
      cases hq : putO x p n with
      | none =>
       rw [hq] at CALL
       have HNO : Hid (putO t ((m : Int) :: p) n = none) := (show _ = _ by rw [HPC.out, hq]; rfl)
       clear HPC
       go_upto_region 6 with fail
       refine wp_region_growT (l := _) 14 (by kernel_rfl) (by kernel_rfl) (fun i => [32, 33, 34, 35, 36, 37, 38, 39, 40, 41, 31, 42, 43, 9].getD i 0) (LR [LV (.slice (some ⟨ba, oa, none⟩) L c9), LV (.slice (some ⟨bp, op, none⟩) (p.length + 1) cp), LV (.pointer (some ⟨bp, op, none⟩)), LV (.int .i64 (m : Int)), LV (.pointer (some ⟨ba, oa + m * 11, none⟩)), LV (.agg #[.int .i64 x.kd, .string x.nm.1, .string x.nm.2, z0, z1, z2, z3, z4, z5, z6, .slice A5 x.args.length c5]), LV (.slice (some ⟨bp, op, none⟩) (p.length + 1) cp), LV (.slice (if cp = 1 then some ⟨bp, op, none⟩ else some ⟨bp, op + 1, none⟩) p.length (cp - 1)), LV (.agg #[.int .i64 n.kd, .string n.nm.1, .string n.nm.2, y0, y1, y2, y3, y4, y5, y6, .slice A2 n.args.length c2]), LV (.tuple #[vTm zT, .bool false]), LV (.tuple #[vTm zT, .bool false]), LV (vTm zT), LV (.bool false), LTx]) (LR_mono ⟨mLV _, mLV _, mLV _, mLV _, mLV _, mLV _, mLV _, mLV _, mLV _, mLV _, mLV _, mLV _, mLV _, mLTx, trivial⟩) (by
        intro i j hi hj h
        exact inj_getD [32, 33, 34, 35, 36, 37, 38, 39, 40, 41, 31, 42, 43, 9] (by decide) i j hi hj h) (by
        intro i hi
        exact lt_getD 60 [32, 33, 34, 35, 36, 37, 38, 39, 40, 41, 31, 42, 43, 9] (by decide) i hi) [12] (by kernel_rfl) 13 11 (by omega) (by omega) (by kernel_rfl) (by kernel_rfl) _ rfl rfl rfl rfl (fun _ _ _ _ h => h) (fun _ _ _ _ h => ⟨zT, h, rfl, zT_one⟩) ?step ?stepL ?done
       case step =>
        intro ii hii a w9 v lo hi' hoth hb hw
        have sl1 : a.tmps[1]? = some (.slice (some ⟨bp, op, none⟩) (p.length + 1) cp) := (hoth 1 (fun j hj => ne_getD 1 _ (by decide) j hj)).trans rfl
        have sl3 : a.tmps[3]? = some (.pointer (some ⟨g3, 0, none⟩)) := (hoth 3 (fun j hj => ne_getD 3 _ (by decide) j hj)).trans rfl
        have sl5 : a.tmps[5]? = some (.pointer (some ⟨g5, 0, none⟩)) := (hoth 5 (fun j hj => ne_getD 5 _ (by decide) j hj)).trans rfl
        have sl8 : a.tmps[8]? = some (.slice (some ⟨ba, oa, none⟩) L c9) := (hoth 8 (fun j hj => ne_getD 8 _ (by decide) j hj)).trans rfl
        match ii, hii with
        | 0, _ =>
         exact gw_move rfl (wanted_plain rfl) 8 _ rfl sl8 ⟨_, rfl, Below.refl _ _, rfl⟩
        | 1, _ =>
         exact gw_move rfl (wanted_plain rfl) 1 _ rfl sl1 ⟨_, rfl, Below.refl _ _, rfl⟩
        | 2, _ =>
         obtain ⟨s0, r0, _⟩ := hw 1 (by omega) (by kernel_rfl)
         have e0 : v 1 = .slice (some ⟨bp, op, none⟩) (p.length + 1) cp := r0
         rw [e0] at s0
         replace s0 : a.tmps[33]? = some (.slice (some ⟨bp, op, none⟩) (p.length + 1) cp) := s0
         have hn1 : (0 : Int) < ((p.length + 1 : Nat) : Int) := by omega
         refine wpOp_step rfl fun K' hK' => ?_
         rw [if_pos (wanted_plain rfl)]
         unfold Oper.wp
         simp only [execOp]
         go_simp
         exact hK' _ _ ⟨_, rfl, Below.refl _ _, rfl⟩
        | 3, _ =>
         obtain ⟨s0, r0, _⟩ := hw 2 (by omega) (by kernel_rfl)
         have e0 : v 2 = .pointer (some ⟨bp, op, none⟩) := r0
         rw [e0] at s0
         replace s0 : a.tmps[34]? = some (.pointer (some ⟨bp, op, none⟩)) := s0
         have cc := (hb.cell (p := ⟨bp, op, none⟩) HBP.out).trans HP0.out
         refine wpOp_step rfl fun K' hK' => ?_
         rw [if_pos (wanted_plain rfl)]
         unfold Oper.wp
         simp only [execOp]
         go_simp
         exact hK' _ _ ⟨_, rfl, Below.refl _ _, rfl⟩
        | 4, _ =>
         obtain ⟨s0, r0, _⟩ := hw 0 (by omega) (by kernel_rfl)
         have e0 : v 0 = .slice (some ⟨ba, oa, none⟩) L c9 := r0
         rw [e0] at s0
         replace s0 : a.tmps[32]? = some (.slice (some ⟨ba, oa, none⟩) L c9) := s0
         obtain ⟨s1, r1, _⟩ := hw 3 (by omega) (by kernel_rfl)
         have e1 : v 3 = .int .i64 (m : Int) := r1
         rw [e1] at s1
         replace s1 : a.tmps[35]? = some (.int .i64 (m : Int)) := s1
         have hml := HML.out
         refine wpOp_step rfl fun K' hK' => ?_
         rw [if_pos (wanted_plain rfl)]
         unfold Oper.wp
         simp only [execOp]
         go_simp
         exact hK' _ _ ⟨_, rfl, Below.refl _ _, rfl⟩
        | 5, _ =>
         obtain ⟨s0, r0, _⟩ := hw 4 (by omega) (by kernel_rfl)
         have e0 : v 4 = .pointer (some ⟨ba, oa + m * 11, none⟩) := r0
         rw [e0] at s0
         replace s0 : a.tmps[36]? = some (.pointer (some ⟨ba, oa + m * 11, none⟩)) := s0
         have ck0 := (hb.cell (p := ⟨ba, oa + m * 11, none⟩) HBA.out).trans K0.out
         have ck1 := (hb.cell (p := ⟨ba, oa + m * 11 + 1, none⟩) HBA.out).trans K1.out
         have ck2 := (hb.cell (p := ⟨ba, oa + m * 11 + 2, none⟩) HBA.out).trans K2.out
         have ck3 := (hb.cell (p := ⟨ba, oa + m * 11 + 3, none⟩) HBA.out).trans K3.out
         have ck4 := (hb.cell (p := ⟨ba, oa + m * 11 + 4, none⟩) HBA.out).trans K4.out
         have ck5 := (hb.cell (p := ⟨ba, oa + m * 11 + 5, none⟩) HBA.out).trans K5.out
         have ck6 := (hb.cell (p := ⟨ba, oa + m * 11 + 6, none⟩) HBA.out).trans K6.out
         have ck7 := (hb.cell (p := ⟨ba, oa + m * 11 + 7, none⟩) HBA.out).trans K7.out
         have ck8 := (hb.cell (p := ⟨ba, oa + m * 11 + 8, none⟩) HBA.out).trans K8.out
         have ck9 := (hb.cell (p := ⟨ba, oa + m * 11 + 9, none⟩) HBA.out).trans K9.out
         have ck10 := (hb.cell (p := ⟨ba, oa + m * 11 + 10, none⟩) HBA.out).trans K10.out
         refine wpOp_step rfl fun K' hK' => ?_
         rw [if_pos (wanted_plain rfl)]
         unfold Oper.wp
         simp only [execOp]
         go_simp
         exact hK' _ _ ⟨_, rfl, Below.refl _ _, rfl⟩
        | 6, _ =>
         exact gw_move rfl (wanted_plain rfl) 1 _ rfl sl1 ⟨_, rfl, Below.refl _ _, rfl⟩
        | 7, _ =>
         obtain ⟨s0, r0, _⟩ := hw 6 (by omega) (by kernel_rfl)
         have e0 : v 6 = .slice (some ⟨bp, op, none⟩) (p.length + 1) cp := r0
         rw [e0] at s0
         replace s0 : a.tmps[38]? = some (.slice (some ⟨bp, op, none⟩) (p.length + 1) cp) := s0
         exact gw_sl1 rfl (wanted_plain rfl) 38 bp op p.length cp rfl s0 ⟨_, rfl, Below.refl _ _, rfl⟩
        | 8, _ =>
         have HBB := H5.out.keep hb
         have ck0 : w9.cell? ⟨g5, 0, none⟩ = _ := TB.cell HBB 0 _ rfl
         have ck1 : w9.cell? ⟨g5, 1, none⟩ = _ := TB.cell HBB 1 _ rfl
         have ck2 : w9.cell? ⟨g5, 2, none⟩ = _ := TB.cell HBB 2 _ rfl
         have ck3 : w9.cell? ⟨g5, 3, none⟩ = _ := TB.cell HBB 3 _ rfl
         have ck4 : w9.cell? ⟨g5, 4, none⟩ = _ := TB.cell HBB 4 _ rfl
         have ck5 : w9.cell? ⟨g5, 5, none⟩ = _ := TB.cell HBB 5 _ rfl
         have ck6 : w9.cell? ⟨g5, 6, none⟩ = _ := TB.cell HBB 6 _ rfl
         have ck7 : w9.cell? ⟨g5, 7, none⟩ = _ := TB.cell HBB 7 _ rfl
         have ck8 : w9.cell? ⟨g5, 8, none⟩ = _ := TB.cell HBB 8 _ rfl
         have ck9 : w9.cell? ⟨g5, 9, none⟩ = _ := TB.cell HBB 9 _ rfl
         have ck10 : w9.cell? ⟨g5, 10, none⟩ = _ := TB.cell HBB 10 _ rfl
         refine wpOp_step rfl fun K' hK' => ?_
         rw [if_pos (wanted_plain rfl)]
         unfold Oper.wp
         simp only [execOp]
         go_simp
         exact hK' _ _ ⟨_, rfl, Below.refl _ _, rfl⟩
        | 9, _ =>
         obtain ⟨s0, r0, _⟩ := hw 5 (by omega) (by kernel_rfl)
         have e0 : v 5 = .agg #[.int .i64 x.kd, .string x.nm.1, .string x.nm.2, z0, z1, z2, z3, z4, z5, z6, .slice A5 x.args.length c5] := r0
         rw [e0] at s0
         replace s0 : a.tmps[37]? = some (.agg #[.int .i64 x.kd, .string x.nm.1, .string x.nm.2, z0, z1, z2, z3, z4, z5, z6, .slice A5 x.args.length c5]) := s0
         obtain ⟨s1, r1, _⟩ := hw 7 (by omega) (by kernel_rfl)
         have e1 : v 7 = .slice (if cp = 1 then some ⟨bp, op, none⟩ else some ⟨bp, op + 1, none⟩) p.length (cp - 1) := r1
         rw [e1] at s1
         replace s1 : a.tmps[39]? = some (.slice (if cp = 1 then some ⟨bp, op, none⟩ else some ⟨bp, op + 1, none⟩) p.length (cp - 1)) := s1
         obtain ⟨s2, r2, _⟩ := hw 8 (by omega) (by kernel_rfl)
         have e2 : v 8 = .agg #[.int .i64 n.kd, .string n.nm.1, .string n.nm.2, y0, y1, y2, y3, y4, y5, y6, .slice A2 n.args.length c2] := r2
         rw [e2] at s2
         replace s2 : a.tmps[40]? = some (.agg #[.int .i64 n.kd, .string n.nm.1, .string n.nm.2, y0, y1, y2, y3, y4, y5, y6, .slice A2 n.args.length c2]) := s2
         refine gw_ttt rfl (wanted_plain rfl) 45 37 39 40 _ _ _ _ rfl (fun v u x w => by go_simp) s0 s1 s2 ?_
         with_reducible refine (CALL.out w9 hb).mono ?_
         rintro e w3 ⟨rfl, hb3⟩
         exact ⟨_, rfl, _, rfl, hb3, rfl⟩
        | 10, _ =>
         obtain ⟨s0, r0, _⟩ := hw 9 (by omega) (by kernel_rfl)
         have e0 : v 9 = .tuple #[vTm zT, .bool false] := r0
         rw [e0] at s0
         replace s0 : a.tmps[41]? = some (.tuple #[vTm zT, .bool false]) := s0
         exact gw_move rfl (wanted_plain rfl) 41 _ rfl s0 ⟨_, rfl, Below.refl _ _, rfl⟩
        | 11, _ =>
         obtain ⟨s0, r0, _⟩ := hw 10 (by omega) (by kernel_rfl)
         have e0 : v 10 = .tuple #[vTm zT, .bool false] := r0
         rw [e0] at s0
         replace s0 : a.tmps[31]? = some (.tuple #[vTm zT, .bool false]) := s0
         exact gr_ext2 rfl rfl 31 _ _ rfl s0 ⟨_, rfl, Below.refl _ _, rfl⟩
        | 12, _ =>
         obtain ⟨s0, r0, _⟩ := hw 10 (by omega) (by kernel_rfl)
         have e0 : v 10 = .tuple #[vTm zT, .bool false] := r0
         rw [e0] at s0
         replace s0 : a.tmps[31]? = some (.tuple #[vTm zT, .bool false]) := s0
         exact gr_ext2' rfl rfl 31 _ _ rfl s0 ⟨_, rfl, Below.refl _ _, rfl⟩
        | 13, _ =>
         refine wpOp_step rfl fun K' hK' => ?_
         rw [if_pos (wanted_plain rfl)]
         unfold Oper.wp
         simp only [execOp]
         go_simp
         exact hK' _ _ ⟨_, rfl, below_alT _ _, rfl, TB.new _ zT, by simp⟩
        | k + 14, h => exact absurd h (by omega)
       case stepL =>
        intro ii hii hl a w1 w9 v lo hi' hw
        match ii, hii with
        | 0, _ => exact absurd hl (by decide)
        | 1, _ => exact absurd hl (by decide)
        | 2, _ => exact absurd hl (by decide)
        | 3, _ => exact absurd hl (by decide)
        | 4, _ => exact absurd hl (by decide)
        | 5, _ => exact absurd hl (by decide)
        | 6, _ => exact absurd hl (by decide)
        | 7, _ => exact absurd hl (by decide)
        | 8, _ => exact absurd hl (by decide)
        | 9, _ => exact absurd hl (by decide)
        | 10, _ => exact absurd hl (by decide)
        | 11, _ => exact absurd hl (by decide)
        | 12, _ =>
         obtain ⟨s0, r0⟩ := hw 10 (by omega) (by kernel_rfl)
         have e0 : v 10 = .tuple #[vTm zT, .bool false] := r0
         rw [e0] at s0
         replace s0 : a.tmps[31]? = some (.tuple #[vTm zT, .bool false]) := s0
         exact gr_ext2' rfl rfl 31 _ _ rfl s0 ⟨_, rfl, rfl, rfl⟩
        | 13, _ => exact absurd hl (by decide)
        | k + 14, h => exact absurd h (by omega)
       case done =>
        intro a w9 v lo hi' cs hdef hsz hoth hb hj hap hv11 ho11 hv13 hbx
        obtain ⟨_, hv11c, hlo11, hhi11⟩ := hj 11 (by omega)
        obtain ⟨_, hv12, _, _⟩ := hj 12 (by omega)
        obtain ⟨_, ⟨_, _, hlt13⟩, hlo13, hhi13⟩ := hj 13 (by omega)
        have ha := eq_puts hdef hsz hoth (fun i hi => (hj i hi).1)
        subst ha
        clear hj hoth hdef hsz hap
        change v 12 = _ at hv12
        simp only [puts, List.getD_cons_zero, List.getD_cons_succ, hv11, hv13, hv12]
        generalize v 0 = v0
        generalize v 1 = v1
        generalize v 2 = v2
        generalize v 3 = v3
        generalize v 4 = v4
        generalize v 5 = v5
        generalize v 6 = v6
        generalize v 7 = v7
        generalize v 8 = v8
        generalize v 9 = v9
        generalize v 10 = v10
        simp only [Act.put, List.setIfInBounds_toArray, List.set_cons_zero, List.set_cons_succ]
        show wpList _ _ _ [_] _ _
        have ecs : cs = zT := vTm_inj (hv11.symm.trans hv11c)
        subst ecs
        have X9 : Below wo.heap.size wo (w9.setRow (lo 13) zT.toArray) := below_setRowO hb hlo13 _
        replace H6 := hI (H6.out.keep X9)
        replace HBW : Hid (Below w.heap.size w (w9.setRow (lo 13) zT.toArray)) := HBW.out.trans (X9.mono HBW.out.size)
        generalize w9.setRow (lo 13) zT.toArray = X at *
        clear hb hbx CALL X9
        go_wp2_with ((with_reducible refine storeTb (cs := zT) (.tmp 6) (.tmp 46) ?_ ?_ ?_ ?_ H6.out ?_ ?_ ?_ ?_); rfl; rfl; rfl; rfl; rfl; rfl; exact zT_one)
        exact retTbx rfl rfl rfl (H6.out.set _) rfl (show RetA _ _ _ _ _ by rw [HNO.out]; exact ⟨rfl, below_setRowO HBW.out HG6.out _⟩)
      | some y =>
       rw [hq] at CALL
       have HSOM : Hid (putO t ((m : Int) :: p) n = some (.app t.nm (t.args.set m y))) := (show _ = _ by rw [HPC.out, hq]; rfl)
       clear HPC
       go_upto_region 6 with fail
       refine wp_region_growT (l := _) 14 (by kernel_rfl) (by kernel_rfl) (fun i => [32, 33, 34, 35, 36, 37, 38, 39, 40, 41, 31, 42, 43, 9].getD i 0) (LR [LV (.slice (some ⟨ba, oa, none⟩) L c9), LV (.slice (some ⟨bp, op, none⟩) (p.length + 1) cp), LV (.pointer (some ⟨bp, op, none⟩)), LV (.int .i64 (m : Int)), LV (.pointer (some ⟨ba, oa + m * 11, none⟩)), LV (.agg #[.int .i64 x.kd, .string x.nm.1, .string x.nm.2, z0, z1, z2, z3, z4, z5, z6, .slice A5 x.args.length c5]), LV (.slice (some ⟨bp, op, none⟩) (p.length + 1) cp), LV (.slice (if cp = 1 then some ⟨bp, op, none⟩ else some ⟨bp, op + 1, none⟩) p.length (cp - 1)), LV (.agg #[.int .i64 n.kd, .string n.nm.1, .string n.nm.2, y0, y1, y2, y3, y4, y5, y6, .slice A2 n.args.length c2]), LTB wo S y true, LTB wo S y true, LTm wo S y, LV (.bool true), LTx]) (LR_mono ⟨mLV _, mLV _, mLV _, mLV _, mLV _, mLV _, mLV _, mLV _, mLV _, mLTB HSO.out _ _, mLTB HSO.out _ _, mLTm HSO.out _, mLV _, mLTx, trivial⟩) (by
        intro i j hi hj h
        exact inj_getD [32, 33, 34, 35, 36, 37, 38, 39, 40, 41, 31, 42, 43, 9] (by decide) i j hi hj h) (by
        intro i hi
        exact lt_getD 60 [32, 33, 34, 35, 36, 37, 38, 39, 40, 41, 31, 42, 43, 9] (by decide) i hi) [12] (by kernel_rfl) 13 11 (by omega) (by omega) (by kernel_rfl) (by kernel_rfl) _ rfl rfl rfl rfl (fun _ _ _ _ h => h) (fun _ _ _ _ h => by obtain ⟨_, cs, e, k⟩ := h; exact ⟨cs, e, k.o11⟩) ?step ?stepL ?done
       case step =>
        intro ii hii a w9 v lo hi' hoth hb hw
        have sl1 : a.tmps[1]? = some (.slice (some ⟨bp, op, none⟩) (p.length + 1) cp) := (hoth 1 (fun j hj => ne_getD 1 _ (by decide) j hj)).trans rfl
        have sl3 : a.tmps[3]? = some (.pointer (some ⟨g3, 0, none⟩)) := (hoth 3 (fun j hj => ne_getD 3 _ (by decide) j hj)).trans rfl
        have sl5 : a.tmps[5]? = some (.pointer (some ⟨g5, 0, none⟩)) := (hoth 5 (fun j hj => ne_getD 5 _ (by decide) j hj)).trans rfl
        have sl8 : a.tmps[8]? = some (.slice (some ⟨ba, oa, none⟩) L c9) := (hoth 8 (fun j hj => ne_getD 8 _ (by decide) j hj)).trans rfl
        match ii, hii with
        | 0, _ =>
         exact gw_move rfl (wanted_plain rfl) 8 _ rfl sl8 ⟨_, rfl, Below.refl _ _, rfl⟩
        | 1, _ =>
         exact gw_move rfl (wanted_plain rfl) 1 _ rfl sl1 ⟨_, rfl, Below.refl _ _, rfl⟩
        | 2, _ =>
         obtain ⟨s0, r0, _⟩ := hw 1 (by omega) (by kernel_rfl)
         have e0 : v 1 = .slice (some ⟨bp, op, none⟩) (p.length + 1) cp := r0
         rw [e0] at s0
         replace s0 : a.tmps[33]? = some (.slice (some ⟨bp, op, none⟩) (p.length + 1) cp) := s0
         have hn1 : (0 : Int) < ((p.length + 1 : Nat) : Int) := by omega
         refine wpOp_step rfl fun K' hK' => ?_
         rw [if_pos (wanted_plain rfl)]
         unfold Oper.wp
         simp only [execOp]
         go_simp
         exact hK' _ _ ⟨_, rfl, Below.refl _ _, rfl⟩
        | 3, _ =>
         obtain ⟨s0, r0, _⟩ := hw 2 (by omega) (by kernel_rfl)
         have e0 : v 2 = .pointer (some ⟨bp, op, none⟩) := r0
         rw [e0] at s0
         replace s0 : a.tmps[34]? = some (.pointer (some ⟨bp, op, none⟩)) := s0
         have cc := (hb.cell (p := ⟨bp, op, none⟩) HBP.out).trans HP0.out
         refine wpOp_step rfl fun K' hK' => ?_
         rw [if_pos (wanted_plain rfl)]
         unfold Oper.wp
         simp only [execOp]
         go_simp
         exact hK' _ _ ⟨_, rfl, Below.refl _ _, rfl⟩
        | 4, _ =>
         obtain ⟨s0, r0, _⟩ := hw 0 (by omega) (by kernel_rfl)
         have e0 : v 0 = .slice (some ⟨ba, oa, none⟩) L c9 := r0
         rw [e0] at s0
         replace s0 : a.tmps[32]? = some (.slice (some ⟨ba, oa, none⟩) L c9) := s0
         obtain ⟨s1, r1, _⟩ := hw 3 (by omega) (by kernel_rfl)
         have e1 : v 3 = .int .i64 (m : Int) := r1
         rw [e1] at s1
         replace s1 : a.tmps[35]? = some (.int .i64 (m : Int)) := s1
         have hml := HML.out
         refine wpOp_step rfl fun K' hK' => ?_
         rw [if_pos (wanted_plain rfl)]
         unfold Oper.wp
         simp only [execOp]
         go_simp
         exact hK' _ _ ⟨_, rfl, Below.refl _ _, rfl⟩
        | 5, _ =>
         obtain ⟨s0, r0, _⟩ := hw 4 (by omega) (by kernel_rfl)
         have e0 : v 4 = .pointer (some ⟨ba, oa + m * 11, none⟩) := r0
         rw [e0] at s0
         replace s0 : a.tmps[36]? = some (.pointer (some ⟨ba, oa + m * 11, none⟩)) := s0
         have ck0 := (hb.cell (p := ⟨ba, oa + m * 11, none⟩) HBA.out).trans K0.out
         have ck1 := (hb.cell (p := ⟨ba, oa + m * 11 + 1, none⟩) HBA.out).trans K1.out
         have ck2 := (hb.cell (p := ⟨ba, oa + m * 11 + 2, none⟩) HBA.out).trans K2.out
         have ck3 := (hb.cell (p := ⟨ba, oa + m * 11 + 3, none⟩) HBA.out).trans K3.out
         have ck4 := (hb.cell (p := ⟨ba, oa + m * 11 + 4, none⟩) HBA.out).trans K4.out
         have ck5 := (hb.cell (p := ⟨ba, oa + m * 11 + 5, none⟩) HBA.out).trans K5.out
         have ck6 := (hb.cell (p := ⟨ba, oa + m * 11 + 6, none⟩) HBA.out).trans K6.out
         have ck7 := (hb.cell (p := ⟨ba, oa + m * 11 + 7, none⟩) HBA.out).trans K7.out
         have ck8 := (hb.cell (p := ⟨ba, oa + m * 11 + 8, none⟩) HBA.out).trans K8.out
         have ck9 := (hb.cell (p := ⟨ba, oa + m * 11 + 9, none⟩) HBA.out).trans K9.out
         have ck10 := (hb.cell (p := ⟨ba, oa + m * 11 + 10, none⟩) HBA.out).trans K10.out
         refine wpOp_step rfl fun K' hK' => ?_
         rw [if_pos (wanted_plain rfl)]
         unfold Oper.wp
         simp only [execOp]
         go_simp
         exact hK' _ _ ⟨_, rfl, Below.refl _ _, rfl⟩
        | 6, _ =>
         exact gw_move rfl (wanted_plain rfl) 1 _ rfl sl1 ⟨_, rfl, Below.refl _ _, rfl⟩
        | 7, _ =>
         obtain ⟨s0, r0, _⟩ := hw 6 (by omega) (by kernel_rfl)
         have e0 : v 6 = .slice (some ⟨bp, op, none⟩) (p.length + 1) cp := r0
         rw [e0] at s0
         replace s0 : a.tmps[38]? = some (.slice (some ⟨bp, op, none⟩) (p.length + 1) cp) := s0
         exact gw_sl1 rfl (wanted_plain rfl) 38 bp op p.length cp rfl s0 ⟨_, rfl, Below.refl _ _, rfl⟩
        | 8, _ =>
         have HBB := H5.out.keep hb
         have ck0 : w9.cell? ⟨g5, 0, none⟩ = _ := TB.cell HBB 0 _ rfl
         have ck1 : w9.cell? ⟨g5, 1, none⟩ = _ := TB.cell HBB 1 _ rfl
         have ck2 : w9.cell? ⟨g5, 2, none⟩ = _ := TB.cell HBB 2 _ rfl
         have ck3 : w9.cell? ⟨g5, 3, none⟩ = _ := TB.cell HBB 3 _ rfl
         have ck4 : w9.cell? ⟨g5, 4, none⟩ = _ := TB.cell HBB 4 _ rfl
         have ck5 : w9.cell? ⟨g5, 5, none⟩ = _ := TB.cell HBB 5 _ rfl
         have ck6 : w9.cell? ⟨g5, 6, none⟩ = _ := TB.cell HBB 6 _ rfl
         have ck7 : w9.cell? ⟨g5, 7, none⟩ = _ := TB.cell HBB 7 _ rfl
         have ck8 : w9.cell? ⟨g5, 8, none⟩ = _ := TB.cell HBB 8 _ rfl
         have ck9 : w9.cell? ⟨g5, 9, none⟩ = _ := TB.cell HBB 9 _ rfl
         have ck10 : w9.cell? ⟨g5, 10, none⟩ = _ := TB.cell HBB 10 _ rfl
         refine wpOp_step rfl fun K' hK' => ?_
         rw [if_pos (wanted_plain rfl)]
         unfold Oper.wp
         simp only [execOp]
         go_simp
         exact hK' _ _ ⟨_, rfl, Below.refl _ _, rfl⟩
        | 9, _ =>
         obtain ⟨s0, r0, _⟩ := hw 5 (by omega) (by kernel_rfl)
         have e0 : v 5 = .agg #[.int .i64 x.kd, .string x.nm.1, .string x.nm.2, z0, z1, z2, z3, z4, z5, z6, .slice A5 x.args.length c5] := r0
         rw [e0] at s0
         replace s0 : a.tmps[37]? = some (.agg #[.int .i64 x.kd, .string x.nm.1, .string x.nm.2, z0, z1, z2, z3, z4, z5, z6, .slice A5 x.args.length c5]) := s0
         obtain ⟨s1, r1, _⟩ := hw 7 (by omega) (by kernel_rfl)
         have e1 : v 7 = .slice (if cp = 1 then some ⟨bp, op, none⟩ else some ⟨bp, op + 1, none⟩) p.length (cp - 1) := r1
         rw [e1] at s1
         replace s1 : a.tmps[39]? = some (.slice (if cp = 1 then some ⟨bp, op, none⟩ else some ⟨bp, op + 1, none⟩) p.length (cp - 1)) := s1
         obtain ⟨s2, r2, _⟩ := hw 8 (by omega) (by kernel_rfl)
         have e2 : v 8 = .agg #[.int .i64 n.kd, .string n.nm.1, .string n.nm.2, y0, y1, y2, y3, y4, y5, y6, .slice A2 n.args.length c2] := r2
         rw [e2] at s2
         replace s2 : a.tmps[40]? = some (.agg #[.int .i64 n.kd, .string n.nm.1, .string n.nm.2, y0, y1, y2, y3, y4, y5, y6, .slice A2 n.args.length c2]) := s2
         refine gw_ttt rfl (wanted_plain rfl) 45 37 39 40 _ _ _ _ rfl (fun v u x w => by go_simp) s0 s1 s2 ?_
         with_reducible refine (CALL.out w9 hb).mono ?_
         rintro e w3 ⟨cs3, rfl, h3, hb3⟩
         exact ⟨_, rfl, _, rfl, hb3, Nat.le_trans hb.size hb3.size, cs3, rfl, h3.more (fun b hb0 => up3 (Below.refl _ wo) hb b hb0)⟩
        | 10, _ =>
         obtain ⟨s0, r0, _⟩ := hw 9 (by omega) (by kernel_rfl)
         obtain ⟨hz0, cs0, e0, k0⟩ : LTB wo S y true (v 9) (lo 9) (hi' 9) w9 := r0
         rw [e0] at s0
         replace s0 : a.tmps[41]? = some (.tuple #[vTm cs0, .bool true]) := s0
         exact gw_move rfl (wanted_plain rfl) 41 _ rfl s0 ⟨_, rfl, Below.refl _ _, hz0, cs0, rfl, k0⟩
        | 11, _ =>
         obtain ⟨s0, r0, _⟩ := hw 10 (by omega) (by kernel_rfl)
         obtain ⟨hz0, cs0, e0, k0⟩ : LTB wo S y true (v 10) (lo 10) (hi' 10) w9 := r0
         rw [e0] at s0
         replace s0 : a.tmps[31]? = some (.tuple #[vTm cs0, .bool true]) := s0
         exact gr_ext2 rfl rfl 31 _ _ rfl s0 ⟨_, rfl, Below.refl _ _, hz0, cs0, rfl, k0⟩
        | 12, _ =>
         obtain ⟨s0, r0, _⟩ := hw 10 (by omega) (by kernel_rfl)
         obtain ⟨hz0, cs0, e0, k0⟩ : LTB wo S y true (v 10) (lo 10) (hi' 10) w9 := r0
         rw [e0] at s0
         replace s0 : a.tmps[31]? = some (.tuple #[vTm cs0, .bool true]) := s0
         exact gr_ext2' rfl rfl 31 _ _ rfl s0 ⟨_, rfl, Below.refl _ _, rfl⟩
        | 13, _ =>
         refine wpOp_step rfl fun K' hK' => ?_
         rw [if_pos (wanted_plain rfl)]
         unfold Oper.wp
         simp only [execOp]
         go_simp
         exact hK' _ _ ⟨_, rfl, below_alT _ _, rfl, TB.new _ zT, by simp⟩
        | k + 14, h => exact absurd h (by omega)
       case stepL =>
        intro ii hii hl a w1 w9 v lo hi' hw
        match ii, hii with
        | 0, _ => exact absurd hl (by decide)
        | 1, _ => exact absurd hl (by decide)
        | 2, _ => exact absurd hl (by decide)
        | 3, _ => exact absurd hl (by decide)
        | 4, _ => exact absurd hl (by decide)
        | 5, _ => exact absurd hl (by decide)
        | 6, _ => exact absurd hl (by decide)
        | 7, _ => exact absurd hl (by decide)
        | 8, _ => exact absurd hl (by decide)
        | 9, _ => exact absurd hl (by decide)
        | 10, _ => exact absurd hl (by decide)
        | 11, _ => exact absurd hl (by decide)
        | 12, _ =>
         obtain ⟨s0, r0⟩ := hw 10 (by omega) (by kernel_rfl)
         obtain ⟨hz0, cs0, e0, k0⟩ : LTB wo S y true (v 10) (lo 10) (hi' 10) w1 := r0
         rw [e0] at s0
         replace s0 : a.tmps[31]? = some (.tuple #[vTm cs0, .bool true]) := s0
         exact gr_ext2' rfl rfl 31 _ _ rfl s0 ⟨_, rfl, rfl, rfl⟩
        | 13, _ => exact absurd hl (by decide)
        | k + 14, h => exact absurd h (by omega)
       case done =>
        intro a w9 v lo hi' cs hdef hsz hoth hb hj hap hv11 ho11 hv13 hbx
        obtain ⟨_, ⟨hz9, cs9, hv9c, hcs⟩, hlo11, hhi11⟩ := hj 11 (by omega)
        obtain ⟨_, hv12, _, _⟩ := hj 12 (by omega)
        obtain ⟨_, ⟨_, _, hlt13⟩, hlo13, hhi13⟩ := hj 13 (by omega)
        have ha := eq_puts hdef hsz hoth (fun i hi => (hj i hi).1)
        subst ha
        clear hj hoth hdef hsz hap
        change v 12 = _ at hv12
        simp only [puts, List.getD_cons_zero, List.getD_cons_succ, hv11, hv13, hv12]
        generalize v 0 = v0
        generalize v 1 = v1
        generalize v 2 = v2
        generalize v 3 = v3
        generalize v 4 = v4
        generalize v 5 = v5
        generalize v 6 = v6
        generalize v 7 = v7
        generalize v 8 = v8
        generalize v 9 = v9
        generalize v 10 = v10
        simp only [Act.put, List.setIfInBounds_toArray, List.set_cons_zero, List.set_cons_succ]
        show wpList _ _ _ [_] _ _
        have ecs := vTm_inj (hv9c.symm.trans hv11)
        subst ecs
        have hcs2 := TmAt.nbox hbx.nb _ _ hcs
        have hX : Below wo.heap.size wo (w9.setRow (lo 13) cs9.toArray) := below_setRowO hb hlo13 _
        have hszX : (w9.setRow (lo 13) cs9.toArray).heap.size = w9.heap.size := size_setRow _ _ _
        have hcs3 : TmAt (w9.setRow (lo 13) cs9.toArray) (fun b => Upto wo w9 S b ∧ b ≠ lo 13) y cs9 := TmAt.keep (fun _ h => h) (fun b hb' => setRow_other w9 _ b _ hb'.2) _ _ hcs2
        have H9 : Hid (TB (w9.setRow (lo 13) cs9.toArray) (lo 13) cs9) := hbx.set _
        have HY : Hid (TmAt (w9.setRow (lo 13) cs9.toArray) (Upto wo (w9.setRow (lo 13) cs9.toArray) S) y cs9) := hcs3.more fun b hb' => upto_more (Nat.le_of_eq hszX.symm) b hb'.1
        have O9 : Hid (One11 cs9) := ho11
        clear hcs hcs2 hcs3 hbx hb hv9c hv11 hv13 hv12 hz9 hlt13 hlo11 hhi11 hlo13 hhi13 CALL ho11 hszX
        generalize w9.setRow (lo 13) cs9.toArray = X at *
        generalize lo 13 = g9 at *
        have HXX := hI hX
        have HSW := HSO
        have HS2 : Hid (In (Upto wo X S) X) := HSO.out.upto hX.size
        replace HSO : Hid (In S X) := HSO.out.later hX.size
        have hbX : Below Y.heap.size Y X := HB1.out.trans (hX.mono HB1.out.size)
        have HARX : Hid (ArgsAt X S t.args (some ⟨ba, oa, none⟩) c9) := HAR.out.keep (fun _ h => h) (fun b hb => hX.block b (Nat.lt_of_lt_of_le (HSY.out b hb) HB1.out.size))
        replace H3 := hI (H3.out.keep hX)
        replace H6 := hI (H6.out.keep hX)
        replace HBW : Hid (Below w.heap.size w X) := HBW.out.trans (hX.mono HBW.out.size)
        replace HP0 := hI ((hX.cell (p := ⟨bp, op, none⟩) HBP.out).trans HP0.out)
        replace HBP : Hid (bp < X.heap.size) := Nat.lt_of_lt_of_le HBP.out hX.size
        have hLL := HL.out
        obtain ⟨b', o', e', hb', hr'⟩ := HARX.out.2 (by omega)
        injection e' with e'
        injection e' with e1 e2
        subst e1
        have e3 : oa = o' := e2
        subst e3
        obtain ⟨xs, k1, k2, k3⟩ := hr'.rows
        have hxl : ∀ x ∈ xs, x.length = 11 := fun x hx => by
         obtain ⟨i, hi, rfl⟩ := List.getElem_of_mem hx
         exact (k2 i (by omega) hi).length
        have hfl : xs.flatten.length = L * 11 := by rw [flat_len xs hxl, k1, hLL]
        have hone : ∀ u ∈ xs.flatten, u.oneCell' = true := fun u hu => by
         obtain ⟨x, hx, hux⟩ := List.mem_flatten.1 hu
         obtain ⟨i, hi, rfl⟩ := List.getElem_of_mem hx
         exact (k2 i (by omega) hi).one u hux
        have hnews : ∀ j u, xs.flatten[j]? = some u → (X.alloc (.cells #[] 35)).cell? ((⟨ba, oa, none⟩ : Addr).add j) = some u := fun j u hj => by
         have hc := k3 j u hj
         rw [Addr.add_mid]
         exact ((below_alT X (.cells #[] 35)).cell (World.block_lt_of_cell? X _ hc)).trans hc
        obtain ⟨i0, hi0', hz0', hz1', hz2'⟩ := infoT
        have own0 : (X.alloc (.cells #[] 35)).ownsRow X.heap.size 35 11 (.slice (some ⟨X.heap.size, 0, none⟩) 0 0) 0 [] := ⟨rfl, .inr ⟨X.heap.size, 0, #[], rfl, Nat.le_refl _, heap_alloc_new X _, Nat.le_refl _, Nat.zero_le _, rfl, rfl⟩⟩
        have HQ : Hid (∀ v' w', w'.ownsRow X.heap.size 35 11 v' (0 + L) ([] ++ xs.flatten) → (X.alloc (.cells #[] 35)).grownBy w' (some X.heap.size) → MkT (Upto wo X S) X w' t.args v' xs) := fun v' w' ho hg => mkT_append HS2.out k1 (fun i hi hx => (k2 i hi hx).more (fun b hb => .inl hb)) (by rw [hLL]; exact ho) hg
        have HI0 := hI hi0'
        have HZ0 := hI hz0'
        have HZ1 := hI hz1'
        have HZ2 := hI hz2'
        have OWN := hI own0
        have HNW := hI hnews
        have HO := hI hone
        have HF := hI hfl
        have hL3 : L ≤ 3000 := by have := HLE.out; omega
        clear hi0' hz0' hz1' hz2' own0 hnews hone hfl k2 k3 k1 hr' hb' hxl hX hbX
        go_wp2_with (at_builtin; refine wpList_append_own_at _ rfl (.tmp 47) (.tmp 48) _ rfl X.heap.size 35 i0 _ 11 176 Tryz.underlying30 HI0.out HZ0.out HZ1.out HZ2.out rfl (by omega) (.slice (some ⟨X.heap.size, 0, none⟩) 0 0) 0 [] rfl OWN.out ⟨ba, oa, none⟩ L c9 xs.flatten rfl HF.out HNW.out HO.out (by simp only [maxLen]; omega) (by omega) (by simp) ?_; intro v4 w4 hown4 hg4 hnil4 hat4; have HM := hI (HQ.out v4 w4 hown4 hg4); clear hown4 hg4 hnil4 hat4)
        obtain ⟨gr, cap, c2, rfl, hgr1, hgr2, hgr3, hcap, hcs, hcur⟩ := HM.out.block (Nat.lt_of_le_of_lt (Nat.zero_le _) HMN.out)
        have hb4 := HM.out.bel
        have H35 := hI (H3.out.keep hb4)
        have H95 := hI (H9.out.keep hb4)
        have H65 := hI (H6.out.keep hb4)
        have HP5 := hI ((hb4.cell (p := ⟨bp, op, none⟩) HBP.out).trans HP0.out)
        have HBP5 : Hid (bp < w4.heap.size) := Nat.lt_of_lt_of_le HBP.out hb4.size
        have HBW4 : Hid (Below w.heap.size w w4) := HBW.out.trans (hb4.mono HBW.out.size)
        have HY4 : Hid (TmAt w4 (Upto wo X S) y cs9) := HY.out.below HS2.out hb4
        have hX4 := hb4.size
        have HX4 : Hid (X.heap.size ≤ w4.heap.size) := hX4
        have HNE : Hid (g3 ≠ gr ∧ g6 ≠ gr ∧ X.heap.size ≤ gr) := ⟨by have := H3.out.lt; omega, by have := H6.out.lt; omega, hgr1⟩
        have HROW := hI hgr3
        have hcap2 : (m + 1) * 11 ≤ c2.size := by
         rw [hcs]; exact Nat.mul_le_mul_right _ (by have := HMN.out; omega)
        have HC2 := hI hcap2
        rw [hLL] at hcap ⊢
        clear hb4 hX4 hgr1 hgr2 hgr3 hcs hcur hcap2 H9 H3 H6 HP0 HBP
        go_wp2_with fail
        refine wp_region_grow (l := _) 6 (by kernel_rfl) (by kernel_rfl) (fun i => [50, 51, 52, 53, 54, 55].getD i 0) (LR [LV (.slice (some ⟨gr, 0, none⟩) L cap), LV (.slice (some ⟨bp, op, none⟩) (p.length + 1) cp), LV (.pointer (some ⟨bp, op, none⟩)), LV (.int .i64 (m : Int)), LV (vTm cs9), LV (.pointer (some ⟨gr, m * 11, none⟩))]) (LR_mono ⟨mLV _, mLV _, mLV _, mLV _, mLV _, mLV _, trivial⟩) (by
         intro i j hi hj h
         exact inj_getD [50, 51, 52, 53, 54, 55] (by decide) i j hi hj h) (by
         intro i hi
         exact lt_getD 60 [50, 51, 52, 53, 54, 55] (by decide) i hi) ?step ?done
        case step =>
         intro ii hii a w9 v lo hi' hoth hb hw
         have sl1 : a.tmps[1]? = some (.slice (some ⟨bp, op, none⟩) (p.length + 1) cp) := (hoth 1 (fun j hj => ne_getD 1 _ (by decide) j hj)).trans rfl
         have sl9 : a.tmps[9]? = some (.pointer (some ⟨g9, 0, none⟩)) := (hoth 9 (fun j hj => ne_getD 9 _ (by decide) j hj)).trans rfl
         have sl11 : a.tmps[11]? = some (.slice (some ⟨gr, 0, none⟩) L cap) := (hoth 11 (fun j hj => ne_getD 11 _ (by decide) j hj)).trans rfl
         match ii, hii with
         | 0, _ =>
          exact gw_move rfl (wanted_plain rfl) 11 _ rfl sl11 ⟨_, rfl, Below.refl _ _, rfl⟩
         | 1, _ =>
          exact gw_move rfl (wanted_plain rfl) 1 _ rfl sl1 ⟨_, rfl, Below.refl _ _, rfl⟩
         | 2, _ =>
          obtain ⟨s0, r0, _⟩ := hw 1 (by omega) (by kernel_rfl)
          have e0 : v 1 = .slice (some ⟨bp, op, none⟩) (p.length + 1) cp := r0
          rw [e0] at s0
          replace s0 : a.tmps[51]? = some (.slice (some ⟨bp, op, none⟩) (p.length + 1) cp) := s0
          have hn1 : (0 : Int) < ((p.length + 1 : Nat) : Int) := by omega
          refine wpOp_step rfl fun K' hK' => ?_
          rw [if_pos (wanted_plain rfl)]
          unfold Oper.wp
          simp only [execOp]
          go_simp
          exact hK' _ _ ⟨_, rfl, Below.refl _ _, rfl⟩
         | 3, _ =>
          obtain ⟨s0, r0, _⟩ := hw 2 (by omega) (by kernel_rfl)
          have e0 : v 2 = .pointer (some ⟨bp, op, none⟩) := r0
          rw [e0] at s0
          replace s0 : a.tmps[52]? = some (.pointer (some ⟨bp, op, none⟩)) := s0
          have cc := (hb.cell (p := ⟨bp, op, none⟩) HBP5.out).trans HP5.out
          refine wpOp_step rfl fun K' hK' => ?_
          rw [if_pos (wanted_plain rfl)]
          unfold Oper.wp
          simp only [execOp]
          go_simp
          exact hK' _ _ ⟨_, rfl, Below.refl _ _, rfl⟩
         | 4, _ =>
          exact gw_ldT cs9 rfl (wanted_plain rfl) 9 rfl sl9 (H95.out.keep hb) O9.out.1 ⟨_, rfl, Below.refl _ _, rfl⟩
         | 5, _ =>
          obtain ⟨s0, r0, _⟩ := hw 0 (by omega) (by kernel_rfl)
          have e0 : v 0 = .slice (some ⟨gr, 0, none⟩) L cap := r0
          rw [e0] at s0
          replace s0 : a.tmps[50]? = some (.slice (some ⟨gr, 0, none⟩) L cap) := s0
          obtain ⟨s1, r1, _⟩ := hw 3 (by omega) (by kernel_rfl)
          have e1 : v 3 = .int .i64 (m : Int) := r1
          rw [e1] at s1
          replace s1 : a.tmps[53]? = some (.int .i64 (m : Int)) := s1
          have hml := HML.out
          refine wpOp_step rfl fun K' hK' => ?_
          rw [if_pos (wanted_plain rfl)]
          unfold Oper.wp
          simp only [execOp]
          go_simp
          exact hK' _ _ ⟨_, rfl, Below.refl _ _, rfl⟩
        case done =>
         intro a w9 v lo hi' hdef hsz hoth hb hj hap
         obtain ⟨_, hv4, _, _⟩ := hj 4 (by omega)
         obtain ⟨_, hv5, _, _⟩ := hj 5 (by omega)
         have ha := eq_puts hdef hsz hoth (fun i hi => (hj i hi).1)
         subst ha
         clear hj hoth hdef hsz hap
         change v 4 = _ at hv4
         change v 5 = _ at hv5
         simp only [puts, List.getD_cons_zero, List.getD_cons_succ, hv4, hv5]
         generalize v 0 = v0
         generalize v 1 = v1
         generalize v 2 = v2
         generalize v 3 = v3
         clear hv4 hv5
         simp only [Act.put, List.setIfInBounds_toArray, List.set_cons_zero, List.set_cons_succ]
         show wpList _ _ _ [_] _ _
         have HROW9 : w9.heap[gr]? = some (.cells c2 35 (0, 0)) := (hb.block gr (lt_of_heap HROW.out)).trans HROW.out
         have hne := HNE.out
         have hs9 := hb.size
         have hs4 := HX4.out
         have HY9 : TmAt w9 (fun b => (Upto wo X S b ∨ X.heap.size ≤ b) ∧ b < w9.heap.size ∧ b ≠ gr) y cs9 := (HY4.out.below (HS2.out.later hs4) hb).more (fun b hb0 => by
          have := HS2.out b hb0
          exact ⟨.inl hb0, by omega, by omega⟩)
         have hset := (HM.out.below hb).set HROW9 hne.2.2 HMN.out HY9
         have THR : Hid (w9.there gr (m * 11) cs9.toArray.size) := by
          have e11 : cs9.toArray.size = 11 := by rw [List.size_toArray]; exact O9.out.1
          rw [e11]
          exact there_row HROW9 (by have := HC2.out; omega)
         have hoth : ∀ b, b ≠ gr → (w9.setCells gr (m * 11) cs9).heap[b]? = w9.heap[b]? := fun b hb => setCells_other gr b hb _ _ _
         have H3V : Hid (TB (w9.setCells gr (m * 11) cs9) g3 [.int .i64 t.kd, .string t.nm.1, .string t.nm.2, x0, x1, x2, x3, x4, x5, x6, .slice A t.args.length c]) := (hoth _ hne.1).trans (H35.out.keep hb)
         have H6V : Hid (TB (w9.setCells gr (m * 11) cs9) g6 zT) := (hoth _ hne.2.1).trans (H65.out.keep hb)
         have hwg : w.heap.size ≤ gr := by have := HBW4.out.size; have := HBW.out.size; omega
         have HBV : Hid (Below w.heap.size w (w9.setCells gr (m * 11) cs9)) := setCells_below hwg _ _ _ (HBW4.out.trans (hb.mono HBW4.out.size))
         have hVs : (w9.setCells gr (m * 11) cs9).heap.size = w9.heap.size := setCells_size _ _ _ _
         have hts := hset.slice
         rw [List.length_set, hLL] at hts
         have AC : Hid (Calls Tryz.prog 23 #[.agg #[.string t.nm.1, .string t.nm.2], .slice (some ⟨gr, 0, none⟩) L cap] (w9.setCells gr (m * 11) cs9) (RetT (w9.setCells gr (m * 11) cs9) (Upto X (w9.setCells gr (m * 11) cs9) (Upto wo X S)) (.app t.nm (t.args.set m y)))) := appR t.nm (t.args.set m y) _ _ _ (HS2.out.upto (by rw [hVs]; omega)) hts
         have HUP : Hid (∀ w5 : World, (w9.setCells gr (m * 11) cs9).heap.size ≤ w5.heap.size → ∀ b, Upto (w9.setCells gr (m * 11) cs9) w5 (Upto X (w9.setCells gr (m * 11) cs9) (Upto wo X S)) b → Upto w w5 S b) := fun w5 h5 b hb0 => by
          have k1 := HBW.out.size
          have k2 := HXX.out.size
          have k3 : w.heap.size ≤ wo.heap.size := HWO.out
          rcases hb0 with (h0 | h0) | h0
          · rcases h0 with h0 | h0
            · exact .inl h0
            · exact .inr ⟨by omega, by omega⟩
          · exact .inr ⟨by omega, by omega⟩
          · exact .inr ⟨by omega, by omega⟩
         have j1 := TB.cell H3V.out 1 _ rfl
         have j2 := TB.cell H3V.out 2 _ rfl
         clear hb HROW9 hne hs9 hs4 HY9 hset hoth hwg hVs hts H35 H65 H95 HM HMN
         go_wp2_with ((with_reducible refine wpList_store_mid ?_ 35 (.tmp 55) (.tmp 54) ?_ gr (m * 11) cs9.toArray ?_ ?_ ?_ ?_ ?_ ?_); rfl; rfl; rfl; rfl; exact THR.out; (rw [List.size_toArray, O9.out.1]; kernel_rfl); (rw [Array.all_eq_true_iff_forall_mem]; intro u hu; exact O9.out.2 u (by simpa using hu)))
         generalize w9.setCells gr (m * 11) cs9 = V at *
         refine AC.out.mono ?_
         rintro e w5 ⟨cs5, rfl, h5, hb5⟩
         have H6' := hI (H6V.out.keep hb5)
         have O5 := hI h5.o11
         have hA5 : Below w.heap.size w w5 := HBV.out.trans (hb5.mono HBV.out.size)
         have h5' : TmAt w5 (Upto w w5 S) (.app t.nm (t.args.set m y)) cs5 := h5.more (HUP.out w5 hb5.size)
         have HR : Hid (RetA w S (putO t ((m : Int) :: p) n) (.returned (.tuple #[vTm cs5, .bool true])) (w5.setRow g6 cs5.toArray)) := (show RetA _ _ _ _ _ by
          rw [HSOM.out]
          exact RetTB.mk (below_setRowO hA5 HG6.out _) (TmAt.boxed h5' H6'.out.nb _))
         clear h5 h5' hb5 hA5 AC j1 j2 HUP
         go_wp2_with ((with_reducible refine storeTb (cs := cs5) (.tmp 6) (.tmp 59) ?_ ?_ ?_ ?_ H6'.out ?_ ?_ ?_ ?_); rfl; rfl; rfl; rfl; rfl; exact O5.out.1; exact O5.out.2)
         exact retTbx rfl rfl rfl (H6'.out.set _) O5.out.1 HR.out
def addM (acc : List Nm) (s : Nm) : List Nm := if (acc.any fun x => eqN x s) = true then acc else acc ++ [s]

structure NsO (Y wr : World) (l : List Nm) (v : Value) : Prop where
 own : wr.ownsRow Y.heap.size 23 2 v l.length (flatN l)
 bel : Below Y.heap.size Y wr




def NmOkq (t : Tm) : Prop := (t.nm.1.size ≤ maxLen ∧ t.nm.2.size ≤ maxLen) ∧ t.bd 10
abbrev Spotq (w0 : World) (S : Nat → Prop) := { x : Nat × Nat × Tm // ∃ cs, TmP w0 S x.2.2 x.1 x.2.1 cs ∧ NmOkq x.2.2 }
def Spotq.tm {w0 : World} {S : Nat → Prop} (x : Spotq w0 S) : Tm := x.1.2.2




section
variable {Q : Exit → Act → World → Prop}
end



theorem eqCall (t t' : Tm) (w : World) (cs cs' : List Value) (e : t = t') (hn : t.nodes ≤ 3000) (h : TmAt w (Has w) t cs) (h' : TmAt w (Has w) t' cs') : Calls Tryz.prog 17 #[vTm cs, vTm cs'] w (RetB w true) := by
 have hh := equalR (Has w) t t' w cs cs' (In.has w) hn h h'
 rw [show eqT t t' = true by rw [e]; exact eqT_refl _] at hh
 exact hh
def OT (w : World) (R : Option Tm) (cs : List Value) : Prop := match R with
 | some t => TmAt w (Has w) t cs
 | none => cs = zT
def RetU (w : World) (R : Option Tm) (e : Ending) (w' : World) : Prop := ∃ cs, e = .returned (.tuple #[vTm cs, .bool R.isSome]) ∧ OT w' R cs ∧ Below w.heap.size w w'
theorem RetA.uni {w w' : World} {S : Nat → Prop} {R : Option Tm} {e : Ending} (hS : In S w) (h : RetA w S R e w') : RetU w R e w' := by
 cases R with
 | none => exact ⟨zT, h.1, rfl, h.2⟩
 | some t =>
  obtain ⟨cs, h1, h2, h3⟩ := h
  exact ⟨cs, h1, h2.more (fun b hb => upto_lt hS h3.size b hb), h3⟩
theorem OT.below {w w' : World} {R : Option Tm} {cs : List Value} (h : OT w R cs) (hb : Below w.heap.size w w') : OT w' R cs := by
 cases R with
 | none => exact h
 | some t => exact (TmAt.below h (In.has w) hb).more (fun b hb0 => Nat.lt_of_lt_of_le hb0 hb.size)
theorem OT.o11 {w : World} {R : Option Tm} {cs : List Value} (h : OT w R cs) : One11 cs := by
 cases R with
 | none => have e : cs = zT := h; subst e; exact ⟨rfl, zT_one⟩
 | some t => exact TmAt.o11 h
theorem IsV.has {w w' : World} {p : List Int} {v : Value} (h : IsV w (Has w) p v) (hb : Below w.heap.size w w') : IsV w' (Has w') p v := by
 obtain ⟨A, c, h1, h2, h3⟩ := h
 refine ⟨A, c, h1, h2, fun hl => ?_⟩
 obtain ⟨b, o, e, hS1, hr⟩ := h3 hl
 exact ⟨b, o, e, Nat.lt_of_lt_of_le hS1 hb.size, fun i hi => (hb.cell (p := ⟨b, o + i, none⟩) hS1).trans (hr i hi)⟩
theorem atP_putP (n : Tm) : ∀ (p : List Int) (t : Tm), (atP t p).isSome = true → atP (putP t p n) p = some n
 | [], _, _ => rfl
 | i :: p, t, h => by
  obtain ⟨m, hm, rfl, hk, h1, h2⟩ := putP_step (n := n) h
  have ih := atP_putP n p _ h1
  rw [h2]
  show (match (if (0 : Int) ≤ (m : Int) then (t.args.set m (putP t.args[m] p n))[((m : Nat) : Int).toNat]? else none) with | some x => atP x p | none => none) = _
  rw [if_pos (by omega), Int.toNat_natCast, List.getElem?_set_self hm]
  exact ih
theorem atP_nodes : ∀ (p : List Int) (t x : Tm), atP t p = some x → x.nodes ≤ t.nodes
 | [], t, x, h => by
  have : some t = some x := h
  injection this with this
  rw [this]; exact Nat.le_refl _
 | i :: p, t, x, h => by
  have hs : (atP t (i :: p)).isSome = true := by rw [h]; rfl
  obtain ⟨m, hm, rfl, hk, h1, _⟩ := putP_step (n := t) hs
  have h2 : atP t.args[m] p = some x := by
   rw [← h]
   show _ = (match (if (0 : Int) ≤ (m : Int) then t.args[((m : Nat) : Int).toNat]? else none) with | some x => atP x p | none => none)
   rw [if_pos (by omega), Int.toNat_natCast, List.getElem?_eq_getElem hm]
  have := atP_nodes p _ x h2
  have := Tm.nodes_mem (List.getElem_mem hm)
  have := t.nodes_args
  omega
theorem nodesL_set {y : Tm} {N : Nat} : ∀ {l : List Tm} {m : Nat} (hm : m < l.length), y.nodes ≤ l[m].nodes + N → Tm.nodesL (l.set m y) ≤ Tm.nodesL l + N
 | x :: l, 0, _, h => by
  simp only [List.set_cons_zero, Tm.nodesL, List.getElem_cons_zero] at h ⊢
  omega
 | x :: l, m + 1, hm, h => by
  have := nodesL_set (l := l) (m := m) (by simpa using hm) (by simpa using h)
  simp only [List.set_cons_succ, Tm.nodesL]
  omega
theorem putP_nodes (n : Tm) : ∀ (p : List Int) (t : Tm), (atP t p).isSome = true → (putP t p n).nodes ≤ t.nodes + n.nodes
 | [], t, _ => by unfold putP; omega
 | i :: p, t, h => by
  obtain ⟨m, hm, rfl, hk, h1, h2⟩ := putP_step (n := n) h
  have ih := putP_nodes n p _ h1
  rw [h2]
  have := nodesL_set hm ih
  have := t.nodes_args
  show 1 + Tm.nodesL _ ≤ _
  omega
theorem putO_some {t n y : Tm} {p : List Int} (h : putO t p n = some y) : (atP t p).isSome = true ∧ y = putP t p n := by
 unfold putO at h
 split at h
 · rename_i h1
   injection h with h
   exact ⟨h1, h.symm⟩
 · cases h
theorem putO_isSome (t n : Tm) (p : List Int) : (putO t p n).isSome = (atP t p).isSome := by
 unfold putO
 cases h : (atP t p).isSome with
 | true => rfl
 | false => rfl
theorem eqZ (w : World) : Calls Tryz.prog 17 #[vTm zT, vTm zT] w (RetB w true) := by
 have hh := equalRaw w 0 0 ⟨#[]⟩ ⟨#[]⟩ ⟨#[]⟩ ⟨#[]⟩ (.int .i64 0) (.string ⟨#[]⟩) (.string ⟨#[]⟩) (.string ⟨#[]⟩) (.string ⟨#[]⟩) (.string ⟨#[]⟩) (.slice none 0 0) (.int .i64 0) (.string ⟨#[]⟩) (.string ⟨#[]⟩) (.string ⟨#[]⟩) (.string ⟨#[]⟩) (.string ⟨#[]⟩) (.slice none 0 0) (.slice none 0 0) (.slice none 0 0) true true (fun _ W _ => equalRZ W) (fun W _ => equalAllR [] [] (.slice none 0 0) (.slice none 0 0) W (Has W) (In.has W) (TsV.nil W _) (TsV.nil W _) (by simp) (fun x hx => by simp at hx))
 have key : ((0 : Int) == 0 && ((⟨#[]⟩ : ByteArray).toList == (⟨#[]⟩ : ByteArray).toList && (⟨#[]⟩ : ByteArray).toList == (⟨#[]⟩ : ByteArray).toList) && true && true) = true := by simp
 rw [key] at hh
 exact hh
theorem eqU (R : Option Tm) (w : World) (cs cs' : List Value) (hn : ∀ t, R = some t → t.nodes ≤ 3000) (h : OT w R cs) (h' : OT w R cs') : Calls Tryz.prog 17 #[vTm cs, vTm cs'] w (RetB w true) := by
 cases R with
 | none =>
  have e : cs = zT := h
  have e' : cs' = zT := h'
  rw [e, e']
  exact eqZ w
 | some t => exact eqCall t t w cs cs' rfl (hn t rfl) h h'
theorem atZ (p : List Int) (pv : Value) (w : World) (S : Nat → Prop) (hS : In S w) (hp : IsV w S p pv) (hl : 0 < p.length) (hpl : p.length ≤ 100000) :
 Calls Tryz.prog 42 #[vTm zT, pv] w (fun e w' => e = .returned (.tuple #[vTm zT, .bool false]) ∧ Below w.heap.size w w') := by
 obtain ⟨Ap, cp, rfl, hlc, hpc⟩ := hp
 have hA : Below w.heap.size w ((w.alloc (.cells #[.int .i64 0, .string ⟨#[]⟩, .string ⟨#[]⟩, .int .i64 0, .string ⟨#[]⟩, .string ⟨#[]⟩, .string ⟨#[]⟩, .string ⟨#[]⟩, .string ⟨#[]⟩, .slice none 0 0, .slice none 0 0] 35)).alloc (.cells #[.int .i64 0, .string ⟨#[]⟩, .string ⟨#[]⟩, .int .i64 0, .string ⟨#[]⟩, .string ⟨#[]⟩, .string ⟨#[]⟩, .string ⟨#[]⟩, .string ⟨#[]⟩, .slice none 0 0, .slice none 0 0] 35)) := Below.alloc (Below.alloc (Below.refl _ _) (Nat.le_refl _) _) (by simp) _
 have B2 : TB ((w.alloc (.cells #[.int .i64 0, .string ⟨#[]⟩, .string ⟨#[]⟩, .int .i64 0, .string ⟨#[]⟩, .string ⟨#[]⟩, .string ⟨#[]⟩, .string ⟨#[]⟩, .string ⟨#[]⟩, .slice none 0 0, .slice none 0 0] 35)).alloc (.cells #[.int .i64 0, .string ⟨#[]⟩, .string ⟨#[]⟩, .int .i64 0, .string ⟨#[]⟩, .string ⟨#[]⟩, .string ⟨#[]⟩, .string ⟨#[]⟩, .string ⟨#[]⟩, .slice none 0 0, .slice none 0 0] 35)) w.heap.size zT := (Below.heap_alloc _ _ _ (by simp)).trans (heap_alloc_new w _)
 have B4 : TB ((w.alloc (.cells #[.int .i64 0, .string ⟨#[]⟩, .string ⟨#[]⟩, .int .i64 0, .string ⟨#[]⟩, .string ⟨#[]⟩, .string ⟨#[]⟩, .string ⟨#[]⟩, .string ⟨#[]⟩, .slice none 0 0, .slice none 0 0] 35)).alloc (.cells #[.int .i64 0, .string ⟨#[]⟩, .string ⟨#[]⟩, .int .i64 0, .string ⟨#[]⟩, .string ⟨#[]⟩, .string ⟨#[]⟩, .string ⟨#[]⟩, .string ⟨#[]⟩, .slice none 0 0, .slice none 0 0] 35)) (w.heap.size + 1) zT := heap_new_at (by simp)
 obtain ⟨bp, op, rfl, hSp, hcell⟩ := hpc hl
 have p0 : ((w.alloc (.cells #[.int .i64 0, .string ⟨#[]⟩, .string ⟨#[]⟩, .int .i64 0, .string ⟨#[]⟩, .string ⟨#[]⟩, .string ⟨#[]⟩, .string ⟨#[]⟩, .string ⟨#[]⟩, .slice none 0 0, .slice none 0 0] 35)).alloc (.cells #[.int .i64 0, .string ⟨#[]⟩, .string ⟨#[]⟩, .int .i64 0, .string ⟨#[]⟩, .string ⟨#[]⟩, .string ⟨#[]⟩, .string ⟨#[]⟩, .string ⟨#[]⟩, .slice none 0 0, .slice none 0 0] 35)).cell? ⟨bp, op, none⟩ = some (.int .i64 p[0]) := (hA.cell (p := ⟨bp, op, none⟩) (hS bp hSp)).trans (hcell 0 hl)
 have HP0 := hI p0
 generalize p[0] = j0 at HP0
 have hL : (0 : Int) < (p.length : Int) := by omega
 clear hpc hcell p0
 obtain ⟨L, hLe⟩ : ∃ L, p.length = L := ⟨_, rfl⟩
 rw [hLe] at hL hlc hpl ⊢
 clear hl hLe
 have h0 : Hid (TB ((w.alloc (.cells #[.int .i64 0, .string ⟨#[]⟩, .string ⟨#[]⟩, .int .i64 0, .string ⟨#[]⟩, .string ⟨#[]⟩, .string ⟨#[]⟩, .string ⟨#[]⟩, .string ⟨#[]⟩, .slice none 0 0, .slice none 0 0] 35)).alloc (.cells #[.int .i64 0, .string ⟨#[]⟩, .string ⟨#[]⟩, .int .i64 0, .string ⟨#[]⟩, .string ⟨#[]⟩, .string ⟨#[]⟩, .string ⟨#[]⟩, .string ⟨#[]⟩, .slice none 0 0, .slice none 0 0] 35)) w.heap.size zT ∧ TB ((w.alloc (.cells #[.int .i64 0, .string ⟨#[]⟩, .string ⟨#[]⟩, .int .i64 0, .string ⟨#[]⟩, .string ⟨#[]⟩, .string ⟨#[]⟩, .string ⟨#[]⟩, .string ⟨#[]⟩, .slice none 0 0, .slice none 0 0] 35)).alloc (.cells #[.int .i64 0, .string ⟨#[]⟩, .string ⟨#[]⟩, .int .i64 0, .string ⟨#[]⟩, .string ⟨#[]⟩, .string ⟨#[]⟩, .string ⟨#[]⟩, .string ⟨#[]⟩, .slice none 0 0, .slice none 0 0] 35)) (w.heap.size + 1) zT ∧ Below w.heap.size w ((w.alloc (.cells #[.int .i64 0, .string ⟨#[]⟩, .string ⟨#[]⟩, .int .i64 0, .string ⟨#[]⟩, .string ⟨#[]⟩, .string ⟨#[]⟩, .string ⟨#[]⟩, .string ⟨#[]⟩, .slice none 0 0, .slice none 0 0] 35)).alloc (.cells #[.int .i64 0, .string ⟨#[]⟩, .string ⟨#[]⟩, .int .i64 0, .string ⟨#[]⟩, .string ⟨#[]⟩, .string ⟨#[]⟩, .string ⟨#[]⟩, .string ⟨#[]⟩, .slice none 0 0, .slice none 0 0] 35)) ∧ ((w.alloc (.cells #[.int .i64 0, .string ⟨#[]⟩, .string ⟨#[]⟩, .int .i64 0, .string ⟨#[]⟩, .string ⟨#[]⟩, .string ⟨#[]⟩, .string ⟨#[]⟩, .string ⟨#[]⟩, .slice none 0 0, .slice none 0 0] 35)).alloc (.cells #[.int .i64 0, .string ⟨#[]⟩, .string ⟨#[]⟩, .int .i64 0, .string ⟨#[]⟩, .string ⟨#[]⟩, .string ⟨#[]⟩, .string ⟨#[]⟩, .string ⟨#[]⟩, .slice none 0 0, .slice none 0 0] 35)).cell? ⟨bp, op, none⟩ = some (.int .i64 j0)) := ⟨B2, B4, hA, HP0.out⟩
 clear hS hA B2 B4 hSp HP0
 unfold vTm zT
 go_enter Tryz.func42, Tryz.ntmps42
 go_wp2_with fail
 generalize ((w.alloc (.cells #[.int .i64 0, .string ⟨#[]⟩, .string ⟨#[]⟩, .int .i64 0, .string ⟨#[]⟩, .string ⟨#[]⟩, .string ⟨#[]⟩, .string ⟨#[]⟩, .string ⟨#[]⟩, .slice none 0 0, .slice none 0 0] 35)).alloc (.cells #[.int .i64 0, .string ⟨#[]⟩, .string ⟨#[]⟩, .int .i64 0, .string ⟨#[]⟩, .string ⟨#[]⟩, .string ⟨#[]⟩, .string ⟨#[]⟩, .string ⟨#[]⟩, .slice none 0 0, .slice none 0 0] 35)) = Y at *
 go_loopw [10] (fun v wr => v = .int .i64 0 ∧ Hid (TB wr w.heap.size zT ∧ TB wr (w.heap.size + 1) zT ∧ Below w.heap.size w wr ∧ wr.cell? ⟨bp, op, none⟩ = some (.int .i64 j0))) (fun v _ => L)
 case atStart => exact ⟨rfl, h0⟩
 case round =>
  clear h0
  obtain ⟨rfl, hE⟩ := hrel
  obtain ⟨wo, rfl⟩ : ∃ wo : World, wo = wr := ⟨_, rfl⟩
  obtain ⟨hb2, hb4, hbel, q0⟩ := hE.out
  have HB := hI hbel
  have HB4 := hI hb4
  have k0 : wo.cell? ⟨w.heap.size, 0, none⟩ = some (.int .i64 0) := hb2.cell 0 _ rfl
  clear hE hb2 hb4 hbel
  go_wp2_with ((with_reducible refine storeTb (cs := zT) (.tmp 4) (.tmp 28) ?_ ?_ ?_ ?_ HB4.out ?_ ?_ ?_ ?_); rfl; rfl; rfl; rfl; rfl; rfl; exact zT_one)
  exact retTbx rfl rfl rfl (HB4.out.set _) rfl ⟨rfl, below_setRowO HB.out (by omega) _⟩
theorem atU (R : Option Tm) (cs : List Value) (p : List Int) (pv : Value) (w : World) (h : OT w R cs) (hp : IsV w (Has w) p pv) (hpl : p.length ≤ 100000) (hR : R = none → 0 < p.length) : Calls Tryz.prog 42 #[vTm cs, pv] w (RetU w (R.bind fun t => atP t p)) := by
 cases R with
 | none =>
  have e : cs = zT := h
  rw [e]
  exact (atZ p pv w (Has w) (In.has w) hp (hR rfl) hpl).mono fun e w' h => ⟨zT, h.1, rfl, h.2⟩
 | some t => exact (atT t cs p pv w (Has w) (In.has w) h hp hpl).mono fun e w' h => h.uni (In.has w)
theorem atRU (t : Tm) (cs : List Value) (p : List Int) (pv : Value) (w : World) (h : TmAt w (Has w) t cs) (hp : IsV w (Has w) p pv) (hpl : p.length ≤ 100000) : Calls Tryz.prog 43 #[vTm cs, pv] w (RetU w (atP t p)) :=
 (atR t cs p pv w (Has w) (In.has w) h hp hpl).mono fun e w' h => h.uni (In.has w)
theorem putU (t n : Tm) (cs cn : List Value) (p : List Int) (pv : Value) (w : World) (h : TmAt w (Has w) t cs) (hn : TmAt w (Has w) n cn) (hp : IsV w (Has w) p pv) (hpl : p.length ≤ 100000) (hnd : t.nodes ≤ 3000) : Calls Tryz.prog 44 #[vTm cs, pv, vTm cn] w (RetU w (putO t p n)) :=
 (putT t n cs cn p pv w (Has w) (In.has w) h hn hp hpl hnd).mono fun e w' h => h.uni (In.has w)
theorem putRU (t n : Tm) (cs cn : List Value) (p : List Int) (pv : Value) (w : World) (h : TmAt w (Has w) t cs) (hn : TmAt w (Has w) n cn) (hp : IsV w (Has w) p pv) (hpl : p.length ≤ 100000) (hnd : t.nodes ≤ 3000) : Calls Tryz.prog 45 #[vTm cs, pv, vTm cn] w (RetU w (putO t p n)) :=
 (putR n (Has w) p t w cs cn pv (In.has w) hnd h hn hp hpl).mono fun e w' h => h.uni (In.has w)
theorem makeI (n : Nat) (hn : n ≤ 1000) (w : World) : (Instr.makeSlice 58 (.int .i64 (n : Int)) (.int .i64 (n : Int))).run Tryz.prog w = .ok (.slice (some ⟨w.heap.size, 0, none⟩) n n) (w.alloc (.cells (Array.replicate n (Value.int .i64 0)) 3)) := by
 rw [run_make_row' (P := Tryz.prog) 58 3 (.int .i64 0) 8 Tryz.underlying58 (by kernel_rfl) rfl .i64 .i64 n (by omega) (by omega) w]
 congr 3
 simp [madeCells]
 apply Array.ext
 · simp
 · intro i h1 h2
   simp [Nat.mod_one]
def IRow (w : World) (g : Nat) (zs : List Int) : Prop := w.heap[g]? = some (.cells (zs.map (Value.int .i64)).toArray 3 (0, 0))
theorem IRow.new (w : World) (n : Nat) : IRow (w.alloc (.cells (Array.replicate n (Value.int .i64 0)) 3)) w.heap.size (List.replicate n 0) := by
 unfold IRow
 rw [heap_alloc_new]
 congr 2
 simp
theorem IRow.cell {w : World} {g : Nat} {zs : List Int} (h : IRow w g zs) {i : Nat} (hi : i < zs.length) : w.cell? ⟨g, i, none⟩ = some (.int .i64 zs[i]) := by
 rw [cell_of_row _ _ _ _ _ _ h]
 simp [List.getElem?_eq_getElem hi]
theorem IRow.free {w : World} {g : Nat} {zs : List Int} (h : IRow w g zs) (i : Nat) : w.frozen? ⟨g, i, none⟩ = false := by
 have h' : w.heap[g]? = _ := h
 simp [World.frozen?, h']
theorem IRow.set {w : World} {g : Nat} {zs : List Int} (h : IRow w g zs) (i : Nat) (x : Int) : IRow (w.setCell ⟨g, i, none⟩ (.int .i64 x)) g (zs.set i x) := by
 unfold IRow
 rw [setCell_eq_setRow w g i _ _ _ _ h, setRow_heap w g _ _ _ _ h]
 congr 2
 simp [List.map_set]
theorem IRow.isV {w : World} {g : Nat} {zs : List Int} (h : IRow w g zs) : IsV w (Has w) zs (.slice (some ⟨g, 0, none⟩) zs.length zs.length) :=
 ⟨_, _, rfl, Nat.le_refl _, fun _ => ⟨g, 0, rfl, lt_of_heap h, fun i hi => by rw [Nat.zero_add]; exact h.cell hi⟩⟩
end Go.Proofs.YtinjhnnpbejccaaGreatDoor
