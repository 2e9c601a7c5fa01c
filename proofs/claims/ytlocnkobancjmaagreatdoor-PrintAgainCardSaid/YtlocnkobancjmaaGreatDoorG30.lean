import Derived.Test.YtlocnkobancjmaaGreatDoorAl
import Derived.Test.YtlocnkobancjmaaGreatDoorG29
import Derived.ChangeSlices
import Derived.OpenShut
import Derived.Deep.RegionWith
import Derived.Deep.RegionHeld3
import Derived.BigQuiet
import Derived.Test.YtlocnkobancjmaaGreatDoorG26
import Derived.Test.YtlocnkobancjmaaGreatDoorG28
namespace Go.Proofs.YtlocnkobancjmaaGreatDoor
open Go Go.RowKit
set_option linter.unusedVariables false
set_option maxHeartbeats 32000000
set_option maxRecDepth 100000

section
variable (ok : List UInt8 → Bool) (num : Bool → List UInt8 → List UInt8 → List UInt8 × List UInt8) (size : List UInt8 → Nat)
end
section
variable (ok : List UInt8 → Bool) (num : Bool → List UInt8 → List UInt8 → List UInt8 × List UInt8) (size : List UInt8 → Nat)
end


section
variable {W0 w W W' : World} {g : Nat} {l : List Sy.Pg} {lv : Value} {cur : ByteArray} {ts ts' : List Tk} {x : Array Value} {u v : Value}
end
section
variable {W0 w W W' : World} {g : Nat} {l : List Sy.Pg} {lv : Value} {cur : ByteArray} {ts ts' : List Tk} {x : Array Value} {u v : Value}
end

structure RB (w W : World) (g : Nat) (x : Array Value) (u v : Value) : Prop where
 hg : g < w.heap.size
 but : But g w W
 o : ObB W w.heap.size x
 e : EB W (w.heap.size + 1) u v
section
variable {W0 w W W' : World} {g : Nat} {l : List Sy.Pg} {lv : Value} {cur : ByteArray} {ts ts' : List Tk} {x : Array Value} {u v : Value}
end
def TkN (ts : List Tk) : Prop := ∀ t ∈ ts, t.k = 5 → nt (quo t.txt t.den) = BA t.txt ∧ dt (quo t.txt t.den) = BA t.den








structure OE (w W : World) (x : Array Value) (u v : Value) : Prop where
 bel : Below w.heap.size w W
 o : ObB W w.heap.size x
 e : EB W (w.heap.size + 1) u v
section
variable {w W W' : World} {x : Array Value} {u v : Value}
end
namespace Sy
theorem run_appendP (w : World) (ty : TypeId) (g n c m c' : Nat) (sp : Option Addr) (cur cs : List Value) (hg : w.heap[g]? = some (.cells cur.toArray 96 (0, 0))) (hroom : n + m ≤ c) (hcl : cs.length = m * 2)
 (hsrc : 0 < m → ∃ ad, sp = some ad ∧ ∀ j v, cs[j]? = some v → w.cell? (Addr.add ad j) = some v) (hfit : n * 2 + cs.length ≤ cur.length) (h1 : ∀ v ∈ cs, v.oneCell' = true) :
 (Builtin.append_ #[33, 33] ty #[.slice (some ⟨g, 0, none⟩) n c, .slice sp m c']).run Tryz.prog w = .ok (.slice (some ⟨g, 0, none⟩) (n + m) c) (w.setRow g (cur.take (n * 2) ++ cs ++ cur.drop (n * 2 + cs.length)).toArray) := by
 obtain ⟨i, h2, h3, h4, h5⟩ := infoP
 by_cases h0 : 0 < m
 · obtain ⟨ad, rfl, hc⟩ := hsrc h0
   have := run_append_room (P := Tryz.prog) w 33 ty 96 i Tryz.underlying33 h2 g n c cur.toArray hg ad m c' cs (by rw [h4]; exact hcl) hc h1 hroom (by rw [h4]; simpa using hfit)
   rw [h4] at this
   simpa using this
 · have hm0 : m = 0 := by omega
   subst hm0
   have e : cs = [] := List.eq_nil_of_length_eq_zero (by simpa using hcl)
   subst e
   cases sp with
   | none =>
    have hst := run_storeCells_at Tryz.prog g (n * 2) 96 [] 0 cur.toArray w hg (by simpa using hfit) (by simp)
    have hroom' : n ≤ c := by omega
    simp only [Nat.add_zero] at hst
    simp [Builtin.append_, run_underlying Tryz.underlying33, sizeOf, typeInfo, h2, Builtin.lenOf, hroom', Builtin.firstCells, Addr.add_lit, storeCells]
    rw [setRow_self w g cur.toArray 96 (0, 0) hg]
   | some ad =>
    have := run_append_room (P := Tryz.prog) w 33 ty 96 i Tryz.underlying33 h2 g n c cur.toArray hg ad 0 c' [] (by simp) (by simp) (by simp) hroom (by rw [h4]; simpa using hfit)
    rw [h4] at this
    simpa using this
theorem stepAppP {ops : Array Oper} {o : Oper} {a : Act} {w : World} {K : Act → World → Prop} {Q : Exit → Act → World → Prop} {E : Prop} (hgd : o.guard = none) (d s : Operand)
 (ho : o.op = .call { callee := .builtin .append, args := #[d, s], argTypes := #[33, 33] }) (g n c m c' : Nat) (sp : Option Addr) (hd : a.eval d = .slice (some ⟨g, 0, none⟩) n c) (hs : a.eval s = .slice sp m c') (hroom : n + m ≤ c)
 (cur cs : List Value) (hg : w.heap[g]? = some (.cells cur.toArray 96 (0, 0))) (hcl : cs.length = m * 2)
 (hsrc : 0 < m → ∃ ad, sp = some ad ∧ ∀ j v, cs[j]? = some v → w.cell? (Addr.add ad j) = some v) (hfit : n * 2 + cs.length ≤ cur.length) (h1 : ∀ v ∈ cs, v.oneCell' = true)
 (h : ∀ w', w'.heap[g]? = some (.cells (cur.take (n * 2) ++ cs ++ cur.drop (n * 2 + cs.length)).toArray 96 (0, 0)) → (∀ B w0, Below B w0 w → B ≤ g → Below B w0 w') → (∀ k, k ≠ g → w'.heap[k]? = w.heap[k]?) → K (a.put o.dst (.slice (some ⟨g, 0, none⟩) (n + m) c)) w') :
 if Region.wanted o (yielded ops a.tmps) = true then Oper.wp Tryz.prog o a w K Q else E := by
 have hw : Region.wanted o (yielded ops a.tmps) = true := by simp [Region.wanted, hgd]
 rw [if_pos hw]
 have hrun := run_appendP w o.type g n c m c' sp cur cs hg hroom hcl hsrc hfit h1
 unfold Oper.wp
 simp [execOp, ho, resolve, invoke, builtin, hd, hs, hrun, Result.andThen]
 exact h _ (by simpa using setRow_heap w g _ _ 96 _ hg) (fun B w0 hb hB => below_setRow hb hB _) (fun k hk => setRow_other w g k _ hk)
end Sy
namespace Sy
def InnW (X wr : World) (q : List Sy) (n : ByteArray) (k : Nat) (R : Option Sy) : Prop := impM (q.drop k) n = R ∧ Below X.heap.size X wr
theorem madeP (k : Nat) (x : Int) (hx : x = (k : Int)) (hk : k ≤ 100000) : ∃ cur : List Value, cur.length = k * 2 ∧ ∀ w : World,
 (Instr.makeSlice 33 (.int .i64 0) (.int .i64 x)).run Tryz.prog w = .ok (.slice (some ⟨w.heap.size, 0, none⟩) 0 k) (w.alloc (.cells cur.toArray 96)) := by
 subst hx
 obtain ⟨i, h1, h2, h3, h4⟩ := infoP
 refine ⟨(madeCells (Value.agg #[.string ⟨#[]⟩, .slice none 0 0]).cells (k * 2)).toList, by rw [Array.length_toList, size_madeCells], fun w => ?_⟩
 have := run_make (P := Tryz.prog) w 33 96 i _ Tryz.underlying33 h1 h2 .i64 .i64 0 k (Int.le_refl _) (by omega) (by rw [h4]; omega) (by omega)
 rw [h3] at this
 simpa using this
theorem bDrewP {k : Nat} {w W : World} (h : Below k w W) : Below k w W.drew := h.trans ⟨rfl, rfl, rfl, Nat.le_refl _, fun _ _ => rfl⟩
theorem bAlP (w : World) (x : Obj) : Below w.heap.size w (w.alloc x) := Below.alloc (Below.refl _ _) (Nat.le_refl _) _
theorem bAlP2 (w : World) (x y : Obj) : Below w.heap.size w ((w.alloc x).alloc y) := chainY (bAlP w x) (bAlP (w.alloc x) y) (Nat.le_refl _)
theorem rowOld (w : World) (x y : Obj) : ((w.alloc x).alloc y).drew.heap[w.heap.size]? = some x := ((bAlP (w.alloc x) y).block w.heap.size (blk_ltY (heap_alloc_new w x))).trans (heap_alloc_new w x)
theorem rowNew (w : World) (x y : Obj) : ((w.alloc x).alloc y).drew.heap[w.heap.size + 1]? = some y := by
 have := heap_alloc_new (w.alloc x) y
 rwa [show (w.alloc x).heap.size = w.heap.size + 1 from by simp] at this
theorem srcP {W : World} {g : Nat} {x y : Value} (h : W.heap[g]? = some (.cells #[x, y] 96 (0, 0))) (j : Nat) (v : Value) (hj : [x, y][j]? = some v) : W.cell? (Addr.add ⟨g, 0, none⟩ j) = some v := by
 have e : Addr.add ⟨g, 0, none⟩ j = ⟨g, j, none⟩ := by simp [Addr.add_lit]
 rw [e, cell_of_row _ _ _ _ _ _ h]
 simpa using hj
theorem oneP (n : ByteArray) (A : Option Addr) (M c : Nat) : ∀ v ∈ [Value.string n, .slice A M c], v.oneCell' = true := by
 intro v hv
 simp only [List.mem_cons, List.not_mem_nil, or_false] at hv
 rcases hv with rfl | rfl <;> rfl
theorem joinLen {cur cs : List Value} {L : Nat} (h1 : cur.length = (L + 1) * 2) (h2 : cs.length = L * 2) : (cur.take (0 * 2) ++ cs ++ cur.drop (0 * 2 + cs.length)).length = (L + 1) * 2 := by
 simp only [List.length_append, List.length_take, List.length_drop]
 omega
theorem defDone {w w4 : World} {l : List Pg} {q : List Sy} {n : ByteArray} {u : Value} {cs cur : List Value} {g L : Nat} (hL : l.length = L) (hcl : cur.length = (L + 1) * 2) (hc1 : cs.length = L * 2)
 (hc4 : ∀ i (hi : i < l.length), cs[i * 2]? = some (.string l[i].1) ∧ ∃ u, cs[i * 2 + 1]? = some u ∧ SyV w l[i].2 u) (hu : SyV w q u) (hl : L ≤ 1000) (hb : Below w.heap.size w w4)
 (hg : w4.heap[g]? = some (.cells ((cur.take (0 * 2) ++ cs ++ cur.drop (0 * 2 + cs.length)).take (L * 2) ++ [.string n, u] ++ (cur.take (0 * 2) ++ cs ++ cur.drop (0 * 2 + cs.length)).drop (L * 2 + [Value.string n, u].length)).toArray 96 (0, 0))) :
 PgV w4 (l ++ [(n, q)]) (.slice (some ⟨g, 0, none⟩) (L + 1) (L + 1)) := by
 subst hL
 have e1 : cur.take (0 * 2) ++ cs ++ cur.drop (0 * 2 + cs.length) = cs ++ cur.drop cs.length := by simp
 rw [e1, ← hc1, List.take_left, List.drop_eq_nil_of_le (by rw [List.length_append, List.length_drop]; simp only [List.length_cons, List.length_nil]; omega), List.append_nil] at hg
 exact PgV.snoc (l := l) (q := q) (c := l.length + 1) hg hc1 (fun i hi => by
  obtain ⟨h1, u, h2, h3⟩ := hc4 i hi
  exact ⟨h1, u, h2, h3.keep hb⟩) (hu.keep hb) (Nat.le_refl _) (by unfold maxLen; omega)
theorem defineRY (l : List Pg) (v : Value) (n : ByteArray) (q : List Sy) (u : Value) (w : World) (hv : PgV w l v) (hu : SyV w q u) (hl : l.length ≤ 1000) (hi : ∀ p ∈ l, p.2.length ≤ 1000) (hq : q.length ≤ 1000) :
 Calls Tryz.prog 70 #[v, .agg #[.string n, u]] w (RetD w (defineM l (n, q))) := by
 have CF : Hid (∀ X, Below w.heap.size w X → Calls Tryz.prog 115 #[v, .string n] X (RetF X (findM l n))) := fun X hX => findRY l v n X (hv.keep hX) (by omega)
 have CH : Hid (∀ X s1 s2, Below w.heap.size w X → Calls Tryz.prog 117 #[v, .agg #[.string s1, .string s2]] X (RetY X (.bool (homeM l (s1, s2))))) := fun X s1 s2 hX => homeRY l v s1 s2 X (hv.keep hX) (by omega) (fun p hp => by have := hi p hp; omega)
 clear hi
 obtain ⟨r, hr⟩ : ∃ r, chkPkg l (n, q) = r := ⟨_, rfl⟩
 have hd : defineM l (n, q) = if r = 0 then (l ++ [(n, q)], 0) else ([], r) := by unfold defineM; rw [hr]
 rw [hd]
 clear hd
 unfold chkPkg at hr
 replace hr : (if pkgOk n = true then (if (findM l n).isSome = true then 4 else if 200 < q.length then 2 else chkL l [] q) else 3) = r := hr
 have HV := qh9 hv
 have HU := qh9 hu
 obtain ⟨A, c, rfl, hlc, hcm, hA⟩ := hv
 obtain ⟨A', c', rfl, hqc, hqm, hA'⟩ := hu
 obtain ⟨cs, hc1, hc2, hc3, hc4⟩ := HV.out.cells
 have HC2 := qh9 hc2
 have HC3 := qh9 hc3
 have HC4 := qh9 hc4
 have HAq := qh9 hA'
 clear hA hA' hc2 hc3 hc4 HV
 obtain ⟨L, hL⟩ : ∃ L, l.length = L := ⟨_, rfl⟩
 obtain ⟨M, hM⟩ : ∃ M, q.length = M := ⟨_, rfl⟩
 rw [hL] at hl hlc hc1 CF CH HC2 ⊢
 rw [hM] at hq hqc hr HU ⊢
 have HL := qh9 hL
 have HM := qh9 hM
 have HC1 := qh9 hc1
 clear hL hM hc1
 have T := PB.new w (.string n) (.slice A' M c')
 have hB0 := Below.alloc (Below.refl w.heap.size w) (Nat.le_refl _) (.cells #[.string n, .slice A' M c'] 96)
 cases hs : pkgOk n with
 | false =>
  rw [hs, if_neg (by simp)] at hr
  subst hr
  rw [if_neg (by omega)]
  go_enter Tryz.func70, Tryz.ntmps70
  go_wp2_with fail
  generalize w.alloc (.cells #[.string n, .slice A' M c'] 96) = W0 at T hB0 ⊢
  have m0 := T.c0
  have m1 := T.c1
  go_wp2_with fail
  refine (validPR n _).mono ?_
  rintro e w1 ⟨rfl, hb⟩
  rw [hs]
  have HT := qh9 (PB.keep T hb)
  have HB := qh9 (chainY hB0 hb (Nat.le_refl _))
  clear hb T hB0 m0 m1
  go_wp2_with fail
  exact retTT rfl rfl rfl ⟨_, rfl, PgV.nil _, HB.out⟩
 | true =>
  rw [hs, if_pos rfl] at hr
  cases hf : findM l n with
  | some p =>
   rw [hf] at hr CF
   replace hr : (4 : Int) = r := hr
   subst hr
   rw [if_neg (by omega)]
   go_enter Tryz.func70, Tryz.ntmps70
   go_wp2_with fail
   generalize w.alloc (.cells #[.string n, .slice A' M c'] 96) = W0 at T hB0 ⊢
   have m0 := T.c0
   have m1 := T.c1
   go_wp2_with fail
   refine (validPR n _).mono ?_
   rintro e w1 ⟨rfl, hb⟩
   rw [hs]
   have HT := qh9 (PB.keep T hb)
   have HB := qh9 (chainY hB0 hb (Nat.le_refl _))
   clear hb T hB0 m0 m1
   have m0 := HT.out.c0
   have m1 := HT.out.c1
   go_wp2_with fail
   refine (CF.out _ HB.out).mono ?_
   rintro e w2 ⟨u2, rfl, hu2, hb⟩
   obtain ⟨A2, c2, rfl, _, _, _⟩ := hu2
   replace HB := qh9 (chainY HB.out hb (Nat.le_refl _))
   clear hb m0 m1
   go_wp2_with fail
   exact retTT rfl rfl rfl ⟨_, rfl, PgV.nil _, chainY HB.out (Below.alloc (Below.refl _ _) (Nat.le_refl _) _) (Nat.le_refl _)⟩
  | none =>
   rw [hf] at hr CF
   replace hr : (if 200 < M then 2 else chkL l [] q) = r := hr
   by_cases h2 : 200 < M
   · rw [if_pos h2] at hr
     subst hr
     rw [if_neg (by omega)]
     have h3 : (200 : Int) < (M : Int) := by omega
     go_enter Tryz.func70, Tryz.ntmps70
     go_wp2_with fail
     generalize w.alloc (.cells #[.string n, .slice A' M c'] 96) = W0 at T hB0 ⊢
     have m0 := T.c0
     have m1 := T.c1
     go_wp2_with fail
     refine (validPR n _).mono ?_
     rintro e w1 ⟨rfl, hb⟩
     rw [hs]
     have HT := qh9 (PB.keep T hb)
     have HB := qh9 (chainY hB0 hb (Nat.le_refl _))
     clear hb T hB0 m0 m1
     have m0 := HT.out.c0
     have m1 := HT.out.c1
     go_wp2_with fail
     refine (CF.out _ HB.out).mono ?_
     rintro e w2 ⟨rfl, hb⟩
     go_upto_region 4 with fail
     have HT2 : Hid (PB (w2.alloc (.cells #[.string ⟨#[]⟩, .slice none 0 0] 96)) w.heap.size (.string n) (.slice A' M c')) := PB.keep (PB.keep HT.out hb) (Below.alloc (Below.refl _ _) (Nat.le_refl _) _)
     have HB2 : Hid (Below w.heap.size w (w2.alloc (.cells #[.string ⟨#[]⟩, .slice none 0 0] 96))) := chainY (chainY HB.out hb (Nat.le_refl _)) (Below.alloc (Below.refl _ _) (Nat.le_refl _) _) (Nat.le_refl _)
     clear hb m0 m1 HT HB
     generalize w2.alloc (.cells #[.string ⟨#[]⟩, .slice none 0 0] 96) = X2 at HT2 HB2 ⊢
     have m0 := HT2.out.c0
     have m1 := HT2.out.c1
     go_wp2_with fail
     exact retTT rfl rfl rfl ⟨_, rfl, PgV.nil _, HB2.out⟩
   · rw [if_neg h2] at hr
     have h3 : ¬ (200 : Int) < (M : Int) := by omega
     obtain ⟨out, hout⟩ : ∃ o : List Pg × Int, (if r = 0 then (l ++ [(n, q)], 0) else ([], r)) = o := ⟨_, rfl⟩
     rw [hout]
     have HOUT := qh9 hout
     clear hout
     have H0 : Hid (chkL l (q.take 0) (q.drop 0) = r) := hr
     clear hr
     go_enter Tryz.func70, Tryz.ntmps70
     go_wp2_with fail
     generalize w.alloc (.cells #[.string n, .slice A' M c'] 96) = W0 at T hB0 ⊢
     have m0 := T.c0
     have m1 := T.c1
     go_wp2_with fail
     refine (validPR n _).mono ?_
     rintro e w1 ⟨rfl, hb⟩
     rw [hs]
     have HT := qh9 (PB.keep T hb)
     have HB := qh9 (chainY hB0 hb (Nat.le_refl _))
     clear hb T hB0 m0 m1
     have m0 := HT.out.c0
     have m1 := HT.out.c1
     go_wp2_with fail
     refine (CF.out _ HB.out).mono ?_
     rintro e w2 ⟨rfl, hb⟩
     go_upto_region 4 with fail
     have HT2 : Hid (PB (w2.alloc (.cells #[.string ⟨#[]⟩, .slice none 0 0] 96)) w.heap.size (.string n) (.slice A' M c')) := PB.keep (PB.keep HT.out hb) (Below.alloc (Below.refl _ _) (Nat.le_refl _) _)
     have HB2 : Hid (Below w.heap.size w (w2.alloc (.cells #[.string ⟨#[]⟩, .slice none 0 0] 96))) := chainY (chainY HB.out hb (Nat.le_refl _)) (Below.alloc (Below.refl _ _) (Nat.le_refl _) _) (Nat.le_refl _)
     clear hb m0 m1 HT HB
     generalize w2.alloc (.cells #[.string ⟨#[]⟩, .slice none 0 0] 96) = X2 at HT2 HB2 ⊢
     have m0 := HT2.out.c0
     have m1 := HT2.out.c1
     have HR0 : Hid (ChkW w X2 w.heap.size n (.slice A' M c') l q 0 r) := ⟨H0.out, HB2.out, HT2.out⟩
     clear H0 HT2
     go_wp2_with fail
     clear m0 m1
     go_loopw [8] (fun v wr => ∃ (i : Nat), i ≤ M ∧ v = .int .i64 i ∧ Hid (ChkW w wr w.heap.size n (.slice A' M c') l q i r)) (fun v _ => M - (intOf v).toNat)
     case atStart => exact ⟨0, Nat.zero_le _, rfl, HR0⟩
     case round =>
      obtain ⟨i, hi, rfl, hE⟩ := hrel
      obtain ⟨wo, rfl⟩ : ∃ wo : World, wo = wr := ⟨_, rfl⟩
      obtain ⟨hF, hB, hG⟩ := hE.out
      clear hE HR0 HB2
      have HF := qh9 hF
      have HG := qh9 hG
      have HBo := qh9 hB
      have m1 := hG.c1
      clear hF hG hB
      by_cases hiL : i < M
      · have hil : i < q.length := by rw [HM.out]; exact hiL
        obtain ⟨b, o, rfl, hbw, hcell⟩ := HAq.out (by omega)
        have HCE := qh9 hcell
        obtain ⟨k0, k1⟩ := hcell i hil
        have step := chkL_at (l := l) hil
        rw [HF.out] at step
        have l0 := (HBo.out.cell (p := ⟨b, o + i * 2, none⟩) hbw).trans k0
        have l1 := (HBo.out.cell (p := ⟨b, o + i * 2 + 1, none⟩) hbw).trans k1
        have hchk : chkImp l (q.take i) q[i] = if symOk q[i].1 q[i].2 = true then (if homeM l (q[i].1, q[i].2) = true then (if (impM (q.take i) q[i].2).isSome = true then 4 else 0) else 13) else 3 := rfl
        clear k0 k1 hcell HF
        rw [hchk] at step
        clear hchk
        generalize q[i].1 = q1 at l0 step
        generalize q[i].2 = q2 at l1 step
        have STP := qh9 step
        clear step
        go_upto_region 12 with fail
        have HN : Hid (SB (wo.alloc (.cells #[.string q1, .string q2] 24)) wo.heap.size (.string q1) (.string q2)) := SB.new wo _ _
        have HT3 : Hid (PB (wo.alloc (.cells #[.string q1, .string q2] 24)) w.heap.size (.string n) (.slice (some ⟨b, o, none⟩) M c')) := PB.keep HG.out (Below.alloc (Below.refl _ _) (Nat.le_refl _) _)
        have HB3 : Hid (Below w.heap.size w (wo.alloc (.cells #[.string q1, .string q2] 24))) := chainY HBo.out (Below.alloc (Below.refl _ _) (Nat.le_refl _) _) (Nat.le_refl _)
        clear l0 l1 HG m1
        generalize wo.alloc (.cells #[.string q1, .string q2] 24) = X3 at HN HT3 HB3 ⊢
        have j0 := HN.out.c0
        have j1 := HN.out.c1
        go_wp2_with fail
        refine (validSR q1 q2 _).mono ?_
        rintro e w4 ⟨rfl, hb⟩
        have HN4 := qh9 (SB.keep HN.out hb)
        have HT4 := qh9 (PB.keep HT3.out hb)
        have HB4 := qh9 (chainY HB3.out hb (Nat.le_refl _))
        clear hb j0 j1 HN HT3 HB3
        cases hsy : symOk q1 q2 with
        | false =>
         have hr : r = 3 := by have := STP.out; rw [hsy] at this; simpa using this
         subst hr
         have hout := HOUT.out
         rw [if_neg (by omega)] at hout
         subst hout
         go_wp2_with fail
         exact retTT rfl rfl rfl ⟨_, rfl, PgV.nil _, HB4.out⟩
        | true =>
         have stp2 := STP.out
         rw [hsy, if_pos rfl] at stp2
         have j0 := HN4.out.c0
         have j1 := HN4.out.c1
         go_wp2_with fail
         refine (CH.out _ q1 q2 HB4.out).mono ?_
         rintro e w5 ⟨rfl, hb⟩
         have HN5 := qh9 (SB.keep HN4.out hb)
         have HT5 := qh9 (PB.keep HT4.out hb)
         have HB5 := qh9 (chainY HB4.out hb (Nat.le_refl _))
         clear hb j0 j1 HN4 HT4 HB4 STP
         cases hh : homeM l (q1, q2) with
         | false =>
          have hr : r = 13 := by rw [hh] at stp2; simpa using stp2
          subst hr
          have hout := HOUT.out
          rw [if_neg (by omega)] at hout
          subst hout
          clear stp2
          go_wp2_with fail
          exact retTT rfl rfl rfl ⟨_, rfl, PgV.nil _, HB5.out⟩
         | true =>
          rw [hh, if_pos rfl] at stp2
          obtain ⟨R, hR⟩ : ∃ R, impM (q.take i) q2 = R := ⟨_, rfl⟩
          rw [hR] at stp2
          have STP := qh9 stp2
          have HI0 : Hid (InnW w5 w5 (q.take i) q2 0 R) := ⟨by rw [List.drop_zero]; exact hR, Below.refl _ _⟩
          clear stp2 hR
          go_wp2_with fail
          go_loopw [10] (fun v wr => ∃ (k : Nat), k ≤ i ∧ v = .int .i64 k ∧ Hid (InnW w5 wr (q.take i) q2 k R)) (fun v _ => i - (intOf v).toNat)
          case atStart => exact ⟨0, Nat.zero_le _, rfl, HI0⟩
          case round =>
           obtain ⟨k, hk, rfl, hE⟩ := hrel
           obtain ⟨wi, rfl⟩ : ∃ wi : World, wi = wr := ⟨_, rfl⟩
           obtain ⟨hF, hBi⟩ := hE.out
           clear hE HI0
           have HF := qh9 hF
           have HBi := qh9 hBi
           have HB6 := qh9 (chainY HB5.out hBi (Nat.le_refl _))
           clear hF hBi
           by_cases hki : k < i
           · have hkl : k < (q.take i).length := by rw [List.length_take]; omega
             have hkq : k < q.length := by omega
             have step := impM_drop hkl q2
             rw [HF.out] at step
             have eqk : (q.take i)[k] = q[k] := List.getElem_take
             rw [eqk] at step
             obtain ⟨k0, k1⟩ := HCE.out k hkq
             have hBd : Below w.heap.size w wi := HB6.out
             have m1 := (PB.keep HT5.out HBi.out).c1
             have j1 := (SB.keep HN5.out HBi.out).c1
             have l1 := (hBd.cell (p := ⟨b, o + k * 2 + 1, none⟩) hbw).trans k1
             clear k0 k1 hBd eqk
             have hk1 : (0 : Int) ≤ (k : Int) := by omega
             have hk2 : (k : Int) < (M : Int) := by omega
             cases hqq : (q[k].2.toList == q2.toList) with
             | true =>
              rw [hqq, if_pos rfl] at step
              have hr : r = 4 := by have := STP.out; rw [step] at this; exact this
              subst hr
              have hout := HOUT.out
              rw [if_neg (by omega)] at hout
              subst hout
              clear step HF
              generalize q[k].2 = qk at l1 hqq
              go_wp2_with fail
              go_quiet (fail)
              go_wp2_with fail
              exact retTT rfl rfl rfl ⟨_, rfl, PgV.nil _, HB6.out.trans (⟨rfl, rfl, rfl, Nat.le_refl _, fun _ _ => rfl⟩ : Below w.heap.size wi (wi.drewN nq))⟩
             | false =>
              rw [hqq, if_neg (by simp)] at step
              replace step := qh9 step
              generalize q[k].2 = qk at l1 hqq
              go_wp2_with fail
              go_quiet (fail)
              go_wp2_with fail
              go_roundw
              case rel => exact ⟨k + 1, by omega, by go_num, ⟨step.out.symm, HBi.out.trans (⟨rfl, rfl, rfl, Nat.le_refl _, fun _ _ => rfl⟩ : Below w5.heap.size wi (wi.drewN nq))⟩⟩
              case measure => simp [intOf]; omega
           · have hkE : k = i := by omega
             have hr : R = none := by
              rw [← HF.out, List.drop_eq_nil_of_le (by rw [List.length_take]; omega)]
              rfl
             have stp2 := STP.out
             rw [hr] at stp2
             replace stp2 : r = chkL l (q.take (i + 1)) (q.drop (i + 1)) := stp2
             have STP2 := qh9 stp2
             clear stp2 hr HF STP
             go_wp2_with fail
             go_roundw
             case rel => exact ⟨i + 1, by omega, by go_num, ⟨STP2.out.symm, HB6.out, PB.keep HT5.out HBi.out⟩⟩
             case measure => simp [intOf]; omega
      · have hiE : i = M := by omega
        have hr : r = 0 := by
         rw [← HF.out, List.drop_eq_nil_of_le (by rw [HM.out]; omega)]
         rfl
        subst hr
        have hout := HOUT.out
        rw [if_pos rfl] at hout
        subst hout
        clear HF
        obtain ⟨cur, hcl, hmk⟩ := madeP (L + 1) ((L : Int) + 1) (by omega) (by omega)
        have HCL := qh9 hcl
        clear hcl
        have hl0 : (0 : Int) ≤ (L : Int) := by omega
        have hl1 : (L : Int) ≤ 1000 := by omega
        have m0 := HG.out.c0
        have hw1 : IntKind.i64.wrap ((L : Int) + 1) = (L : Int) + 1 := IntWalk.i64_in _ (by omega)
        go_upto_region 21 with fail
        clear hiL
        go_region_held3 (fun W' => W'.cell? ⟨w.heap.size, 0, none⟩ = some (.string n) ∧ W'.cell? ⟨w.heap.size, 1, none⟩ = some (.slice A' M c')) (go_keep) ((first
         | ((with_reducible refine stepAppP ?_ (.tmp 63) (.tmp 64) ?_ wo.heap.size 0 (L + 1) L c A ?_ ?_ ?_ cur cs ?_ ?_ ?_ ?_ ?_ ?_); rfl; rfl; rfl; rfl; (omega); (first | exact heap_alloc_new wo _ | exact rowOld wo _ _ | exact rowNew wo _ _); (exact HC1.out); (intro h0; obtain ⟨ad, h5, h6, h7⟩ := HC2.out h0; refine ⟨ad, h5, fun j v hj => ?_⟩; refine Eq.trans (Below.cell (chainY HBo.out ?_ (Nat.le_refl _)) (p := ad.add j) ?_) (h7 j v hj); (first | exact bDrewP (bAlP _ _) | exact bDrewP (bAlP2 _ _ _) | exact bAlP _ _ | exact bAlP2 _ _ _); (rw [add_blockY]; exact h6)); (have h1 := HCL.out; have h2 := HC1.out; omega); (exact HC3.out); (intro w3 hg3 hb3 ho3; have HX3 := qh9 (hb3 wo.heap.size wo (by first | exact bDrewP (bAlP _ _) | exact bDrewP (bAlP2 _ _ _) | exact bAlP _ _ | exact bAlP2 _ _ _) (by omega)); have HT3 := qh9 (PB.keep HG.out HX3.out); have HB3 := qh9 (chainY HBo.out HX3.out (Nat.le_refl _)); have HG3 := qh9 hg3; have HO3 := qh9 ho3; clear m0 m1 hg3 hb3 ho3; have m0 := HT3.out.c0; have m1 := HT3.out.c1; rw [Nat.zero_add]))
         | ((with_reducible refine stepAppP ?_ (.tmp 63) (.tmp 64) ?_ (wo.heap.size + 1) 0 (L + 1) L c A ?_ ?_ ?_ cur cs ?_ ?_ ?_ ?_ ?_ ?_); rfl; rfl; rfl; rfl; (omega); (first | exact heap_alloc_new wo _ | exact rowOld wo _ _ | exact rowNew wo _ _); (exact HC1.out); (intro h0; obtain ⟨ad, h5, h6, h7⟩ := HC2.out h0; refine ⟨ad, h5, fun j v hj => ?_⟩; refine Eq.trans (Below.cell (chainY HBo.out ?_ (Nat.le_refl _)) (p := ad.add j) ?_) (h7 j v hj); (first | exact bDrewP (bAlP _ _) | exact bDrewP (bAlP2 _ _ _) | exact bAlP _ _ | exact bAlP2 _ _ _); (rw [add_blockY]; exact h6)); (have h1 := HCL.out; have h2 := HC1.out; omega); (exact HC3.out); (intro w3 hg3 hb3 ho3; have HX3 := qh9 (hb3 wo.heap.size wo (by first | exact bDrewP (bAlP _ _) | exact bDrewP (bAlP2 _ _ _) | exact bAlP _ _ | exact bAlP2 _ _ _) (by omega)); have HT3 := qh9 (PB.keep HG.out HX3.out); have HB3 := qh9 (chainY HBo.out HX3.out (Nat.le_refl _)); have HG3 := qh9 hg3; have HO3 := qh9 ho3; clear m0 m1 hg3 hb3 ho3; have m0 := HT3.out.c0; have m1 := HT3.out.c1; rw [Nat.zero_add]))
         | ((with_reducible refine stepAppP ?_ (.tmp 65) (.tmp 67) ?_ wo.heap.size L (L + 1) 1 1 (some ⟨w3.heap.size, 0, none⟩) ?_ ?_ (Nat.le_refl _) (cur.take (0 * 2) ++ cs ++ cur.drop (0 * 2 + cs.length)) [.string n, .slice A' M c'] ?_ ?_ ?_ ?_ ?_ ?_); rfl; rfl; rfl; rfl; (first | exact ((bAlP _ _).block _ (blk_ltY HG3.out)).trans HG3.out | exact ((bDrewP (bAlP _ _)).block _ (blk_ltY HG3.out)).trans HG3.out); rfl; (intro h0; exact ⟨_, rfl, srcP (heap_alloc_new w3 _)⟩); (rw [joinLen HCL.out HC1.out]; simp only [List.length_cons, List.length_nil]; omega); (exact oneP _ _ _ _); (intro w4 hg4 hb4 ho4; have HB4 := qh9 (hb4 w.heap.size w (chainY HB3.out (bAlP _ _) (Nat.le_refl _)) (by have := HBo.out.size; omega)); have HX4 : Hid (PB w4 w.heap.size (.string n) (.slice A' M c')) := ((ho4 _ (by have := HG.out.lt; omega)).trans (PB.keep HT3.out (by first | exact Below.refl _ _ | exact bAlP _ _ | exact bDrewP (bAlP _ _)))); clear m0 m1; have m0 := HX4.out.c0; have m1 := HX4.out.c1; have HP4 := qh9 (defDone HL.out HCL.out HC1.out HC4.out HU.out (by omega) HB4.out hg4); clear hg4 hb4 ho4))
         | ((with_reducible refine stepAppP ?_ (.tmp 65) (.tmp 67) ?_ wo.heap.size L (L + 1) 1 1 (some ⟨wo.heap.size + 1, 0, none⟩) ?_ ?_ (Nat.le_refl _) (cur.take (0 * 2) ++ cs ++ cur.drop (0 * 2 + cs.length)) [.string n, .slice A' M c'] ?_ ?_ ?_ ?_ ?_ ?_); rfl; rfl; rfl; rfl; (exact HG3.out); rfl; (intro h0; exact ⟨_, rfl, srcP ((HO3.out _ (by omega)).trans (rowNew wo _ _))⟩); (rw [joinLen HCL.out HC1.out]; simp only [List.length_cons, List.length_nil]; omega); (exact oneP _ _ _ _); (intro w4 hg4 hb4 ho4; have HB4 := qh9 (hb4 w.heap.size w (HB3.out) (by have := HBo.out.size; omega)); have HX4 : Hid (PB w4 w.heap.size (.string n) (.slice A' M c')) := ((ho4 _ (by have := HG.out.lt; omega)).trans (PB.keep HT3.out (by first | exact Below.refl _ _ | exact bAlP _ _ | exact bDrewP (bAlP _ _)))); clear m0 m1; have m0 := HX4.out.c0; have m1 := HX4.out.c1; have HP4 := qh9 (defDone HL.out HCL.out HC1.out HC4.out HU.out (by omega) HB4.out hg4); clear hg4 hb4 ho4))
         | ((with_reducible refine stepAppP ?_ (.tmp 65) (.tmp 67) ?_ (wo.heap.size + 1) L (L + 1) 1 1 (some ⟨wo.heap.size, 0, none⟩) ?_ ?_ (Nat.le_refl _) (cur.take (0 * 2) ++ cs ++ cur.drop (0 * 2 + cs.length)) [.string n, .slice A' M c'] ?_ ?_ ?_ ?_ ?_ ?_); rfl; rfl; rfl; rfl; (exact HG3.out); rfl; (intro h0; exact ⟨_, rfl, srcP ((HO3.out _ (by omega)).trans (rowOld wo _ _))⟩); (rw [joinLen HCL.out HC1.out]; simp only [List.length_cons, List.length_nil]; omega); (exact oneP _ _ _ _); (intro w4 hg4 hb4 ho4; have HB4 := qh9 (hb4 w.heap.size w (HB3.out) (by have := HBo.out.size; omega)); have HX4 : Hid (PB w4 w.heap.size (.string n) (.slice A' M c')) := ((ho4 _ (by have := HG.out.lt; omega)).trans (PB.keep HT3.out (by first | exact Below.refl _ _ | exact bAlP _ _ | exact bDrewP (bAlP _ _)))); clear m0 m1; have m0 := HX4.out.c0; have m1 := HX4.out.c1; have HP4 := qh9 (defDone HL.out HCL.out HC1.out HC4.out HU.out (by omega) HB4.out hg4); clear hg4 hb4 ho4))
        ))
        all_goals go_wp2_with fail
        all_goals exact retTT rfl rfl rfl ⟨_, rfl, HP4.out, HB4.out⟩
end Sy
def userI : List Sy.Sy := [(BA lispB, ⟨#[99, 97, 114]⟩), (BA lispB, ⟨#[110, 105, 108]⟩), (BA lispB, ⟨#[116]⟩)]
def userM : List Sy.Pg := [(⟨#[108, 105, 115, 112]⟩, []), (⟨#[117, 115, 101, 114]⟩, userI)]
theorem userEq : Sy.defineM initM5 (⟨#[117, 115, 101, 114]⟩, userI) = (userM, 0) := by kernel_rfl
theorem userB5 : PgB userM := ⟨by decide, by decide⟩
theorem userRow : ∀ i (hi : i < userI.length), ([.string (BA lispB), .string ⟨#[99, 97, 114]⟩, .string (BA lispB), .string ⟨#[110, 105, 108]⟩, .string (BA lispB), .string ⟨#[116]⟩] : List Value)[i * 2]? = some (.string userI[i].1) ∧ ([.string (BA lispB), .string ⟨#[99, 97, 114]⟩, .string (BA lispB), .string ⟨#[110, 105, 108]⟩, .string (BA lispB), .string ⟨#[116]⟩] : List Value)[i * 2 + 1]? = some (.string userI[i].2)
 | 0, _ => ⟨rfl, rfl⟩
 | 1, _ => ⟨rfl, rfl⟩
 | 2, _ => ⟨rfl, rfl⟩
 | k + 3, hi => absurd hi (by show ¬ k + 3 < 3; omega)
theorem defR (w6 : World) (x : Value) (h : Sy.PgV w6 initM5 x) : Calls Tryz.prog 70 #[x, .agg #[.string ⟨#[117, 115, 101, 114]⟩, .slice (some ⟨w6.heap.size, 0, none⟩) 3 3]] (w6.alloc (.cells #[.string (BA lispB), .string ⟨#[99, 97, 114]⟩, .string (BA lispB), .string ⟨#[110, 105, 108]⟩, .string (BA lispB), .string ⟨#[116]⟩] 24)) (Sy.RetD (w6.alloc (.cells #[.string (BA lispB), .string ⟨#[99, 97, 114]⟩, .string (BA lispB), .string ⟨#[110, 105, 108]⟩, .string (BA lispB), .string ⟨#[116]⟩] 24)) (userM, 0)) := by
 have hu : Sy.SyV (w6.alloc (.cells #[.string (BA lispB), .string ⟨#[99, 97, 114]⟩, .string (BA lispB), .string ⟨#[110, 105, 108]⟩, .string (BA lispB), .string ⟨#[116]⟩] 24)) userI (.slice (some ⟨w6.heap.size, 0, none⟩) 3 3) := Sy.SyV.of_row (g := w6.heap.size) (c := 3) (row := [.string (BA lispB), .string ⟨#[99, 97, 114]⟩, .string (BA lispB), .string ⟨#[110, 105, 108]⟩, .string (BA lispB), .string ⟨#[116]⟩]) (l := userI) (heap_alloc_new w6 _) (by show 3 ≤ 3; omega) (by decide) userRow
 have := Sy.defineRY initM5 x ⟨#[117, 115, 101, 114]⟩ userI (.slice (some ⟨w6.heap.size, 0, none⟩) 3 3) (w6.alloc (.cells #[.string (BA lispB), .string ⟨#[99, 97, 114]⟩, .string (BA lispB), .string ⟨#[110, 105, 108]⟩, .string (BA lispB), .string ⟨#[116]⟩] 24)) (h.keep (Below.alloc (Below.refl _ _) (Nat.le_refl _) _)) hu (by decide) (by decide) (by decide)
 rw [userEq] at this
 exact this
end Go.Proofs.YtlocnkobancjmaaGreatDoor
