/- All objects of a text: what holds between rounds. -/
import Derived.Test.YtflnffgohbbhiaaGreatDoorG26
import Derived.Test.YtflnffgohbbhiaaGreatDoorG17
import Derived.Test.YtflnffgohbbhiaaGreatDoorG16
import Derived.Test.YtflnffgohbbhiaaGreatDoorG15
namespace Go.Proofs.YtflnffgohbbhiaaGreatDoor
open Go Go.RowKit
set_option linter.unusedVariables false
theorem text_len (x : Int) : (text x).length ≤ (body (text x)).length + 1 := by
 have h : mag (text x) = x.natAbs := by
  have h := val_text x
  unfold val at h
  split at h <;> omega
 rw [← magText_mag (text x), h]
 unfold text signText
 split <;> simp
theorem scanS_ok {s : ByteArray} {ts : List Tk} (h : scanS s = .ok ts) : WfT ts ∧ ts.length ≤ s.size + 1 ∧ TkS ts := by
 unfold scanS at h
 by_cases hs : 6000 < s.size
 · rw [if_pos hs] at h; cases h
 · rw [if_neg hs] at h
   unfold toksS toksL at h
   have hl : (LA s).length = s.size := la_length s
   obtain ⟨h1, h2, h3⟩ := toks_wf okP numP sizP (P := fun x y => x.length ≤ 1000 ∧ y.length ≤ 1000) (fun b x y h1 h2 => by
    unfold numP nt dt sizP at *
    have e1 := text_len (numQ b x y).num
    have e2 := text_len ((numQ b x y).den : Int)
    simp only [la_ba] at *
    omega) _ _ _ _ h
   rw [hl] at h2
   exact ⟨h1, h2, by omega, fun t ht hk => (h3 t ht).2 hk⟩
structure SmS (s : ByteArray) : Prop where
 size : s.size ≤ 1000000
 toks : ∀ ts, scanS s = .ok ts → ts.length ≤ 700
theorem SmS.of {s : ByteArray} (h : s.size ≤ 699) : SmS s := ⟨by omega, fun ts ht => by have := (scanS_ok ht).2.1; omega⟩
structure Tws (B : Nat) (w : World) (v sv : Value) (xs : List (Ob × Value)) (ps : List Int) : Prop where
 own : w.ownsRow B 47 7 v xs.length (flatC xs)
 pairs : ∀ x ∈ xs, Pair w (fun b => B ≤ b ∧ b < w.heap.size ∧ v.ownBlock ≠ some b ∧ sv.ownBlock ≠ some b) x.1 x.2
 st : w.ownsRow B 3 1 sv ps.length (ps.map (Value.int .i64))
 apart : ∀ b, v.ownBlock = some b → sv.ownBlock ≠ some b
theorem Tws.start (B : Nat) (w : World) : Tws B w (.slice none 0 0) (.slice none 0 0) [] [] := ⟨⟨rfl, .inl ⟨rfl, rfl⟩⟩, fun x hx => by simp at hx, ⟨rfl, .inl ⟨rfl, rfl⟩⟩, fun b hb => by simp [Value.ownBlock] at hb⟩
theorem Tws.move {B : Nat} {w w' : World} {v sv : Value} {xs : List (Ob × Value)} {ps : List Int} (h : Tws B w v sv xs ps) (hs : w.heap.size ≤ w'.heap.size) (hk : ∀ k, B ≤ k → k < w.heap.size → w'.heap[k]? = w.heap[k]?) : Tws B w' v sv xs ps :=
 ⟨own_keep h.own fun g hg => hk g (own_lt h.own g hg).1 (own_lt h.own g hg).2, fun x hx => (h.pairs x hx).keep (fun b hb => ⟨hb.1, by omega, hb.2.2⟩) (fun b hb => hk b hb.1 hb.2.1), own_keep h.st fun g hg => hk g (own_lt h.st g hg).1 (own_lt h.st g hg).2, h.apart⟩
theorem Tws.keep {B : Nat} {w w' : World} {v sv : Value} {xs : List (Ob × Value)} {ps : List Int} (h : Tws B w v sv xs ps) (hb : Below w.heap.size w w') : Tws B w' v sv xs ps := h.move hb.size fun k _ hk => hb.block k hk
theorem Tws.but {B g : Nat} {w w' : World} {v sv : Value} {xs : List (Ob × Value)} {ps : List Int} (h : Tws B w v sv xs ps) (hb : But g w w') (hg : g < B) : Tws B w' v sv xs ps := h.move hb.size fun k h1 hk => hb.block k hk (by omega)
theorem Tws.less {B B' : Nat} {w : World} {v sv : Value} {xs : List (Ob × Value)} {ps : List Int} (h : Tws B w v sv xs ps) (hB : B' ≤ B) : Tws B' w v sv xs ps := by
 have key : ∀ {e : TypeId} {z n : Nat} {u : Value} {ys : List Value}, w.ownsRow B e z u n ys → w.ownsRow B' e z u n ys := fun {e z n u ys} h => by
  refine ⟨h.1, ?_⟩
  rcases h.2 with h0 | ⟨g, cap, cur, rfl, hb, hr⟩
  · exact .inl h0
  · exact .inr ⟨g, cap, cur, rfl, by omega, hr⟩
 exact ⟨key h.own, fun x hx => (h.pairs x hx).more fun b hb => ⟨by omega, hb.2⟩, key h.st, h.apart⟩
theorem infoI5 : ∃ i, Tryz.prog.info? 3 = some i ∧ i.zero = some (.int .i64 0) ∧ i.size = 1 ∧ i.bytes = 8 := info_of (P := Tryz.prog) (t := 3) (z := .int .i64 0) (a := 1) (b := 8) (by kernel_rfl)
theorem appTwo1 {ops : Array Oper} {rest : List Oper} {oo : Oper} {a : Act} {w : World} {Q : Exit → Act → World → Prop} (hgd : oo.guard = none) (sl x : Operand)
 (ho : oo.op = .call { callee := .builtin .append, args := #[sl, x], argTypes := #[37, 37] }) {B : Nat} {v sv : Value} {xs : List (Ob × Value)} {ps : List Int} (hs : a.eval sl = v) (hI : Tws B w v sv xs ps) (o : Ob) (p x0 x1 x2 x3 x4 x5 : Value) (hz : Val7 o p x0 x1 x2 x3 x4 x5) (g c : Nat) (hx : a.eval x = .slice (some ⟨g, 0, none⟩) 1 c)
 (hg : w.heap[g]? = some (.cells #[x0, x1, x2, x3, x4, x5, p] 47 (0, 0))) (hp : Pair w (fun b => B ≤ b ∧ b < w.heap.size ∧ v.ownBlock ≠ some b ∧ sv.ownBlock ≠ some b) o p) (hl : xs.length ≤ 100000) (hB : B ≤ w.heap.size)
 (h : ∀ v' w', Tws B w' v' sv (xs ++ [(o, p)]) ps → Below B w w' → wpList Tryz.prog ops Q rest (a.put oo.dst v') w') : wpList Tryz.prog ops Q (oo :: rest) a w := by
 obtain ⟨i0, hi, hz0, hz1, hz2⟩ := infoO
 have hone : ∀ u ∈ [x0, x1, x2, x3, x4, x5, p], u.oneCell' = true := by
  have := hp.one
  rw [hz] at this
  intro u hu
  rw [Array.all_eq_true_iff_forall_mem] at this
  exact this u (by simpa using hu)
 refine wpList_append_own_at w hgd sl x 37 ho B 47 i0 _ 7 112 Tryz.underlying37 hi hz0 hz1 hz2 rfl (by omega) v xs.length (flatC xs) hs hI.own ⟨g, 0, none⟩ 1 c [x0, x1, x2, x3, x4, x5, p] hx rfl (cell_row5 hg) hone (by unfold maxLen; omega) (by omega) hB ?_
 intro v' w' h1 h2 _ hat
 have hown := own_lt hI.own
 have hst := own_lt hI.st
 have hne' : ∀ b, b < w.heap.size → v.ownBlock ≠ some b → v'.ownBlock ≠ some b := fun b hb' hne e => by
  rcases hat with h0 | h0
  · exact hne (h0.symm.trans e)
  · rw [h0] at e
    have : w.heap.size = b := by injection e
    omega
 have hsz := h2.size
 have key : ∀ o p, Pair w (fun b => B ≤ b ∧ b < w.heap.size ∧ v.ownBlock ≠ some b ∧ sv.ownBlock ≠ some b) o p → Pair w' (fun b => B ≤ b ∧ b < w'.heap.size ∧ v'.ownBlock ≠ some b ∧ sv.ownBlock ≠ some b) o p := fun o p hq =>
  hq.keep (fun b hb' => ⟨hb'.1, by omega, hne' b hb'.2.1 hb'.2.2.1, hb'.2.2.2⟩) (fun b hb' => h2.block b hb'.2.1 (fun e => hb'.2.2.1 e.symm))
 refine h v' w' ⟨?_, fun y hy => ?_, own_keep hI.st fun k hk => h2.block k (hst k hk).2 (fun e => hI.apart k e.symm hk), fun b hb => ?_⟩ ((Below.refl B w).grown h2 hB (fun k hk => (hown k hk).1))
 · rw [flatC_snoc, List.length_append]
   rw [hz]
   exact h1
 · rcases List.mem_append.1 hy with hy | hy
   · exact key _ _ (hI.pairs y hy)
   · obtain rfl : y = (o, p) := by simpa using hy
     exact key _ _ hp
 · rcases hat with h0 | h0
   · exact hI.apart b (h0.symm.trans hb)
   · rw [h0] at hb
     have : w.heap.size = b := by injection hb
     intro e
     have := (hst b e).2
     omega
theorem appTwo2 {ops : Array Oper} {rest : List Oper} {oo : Oper} {a : Act} {w : World} {Q : Exit → Act → World → Prop} (hgd : oo.guard = none) (sl x : Operand)
 (ho : oo.op = .call { callee := .builtin .append, args := #[sl, x], argTypes := #[34, 34] }) {B : Nat} {v sv : Value} {xs : List (Ob × Value)} {ps : List Int} (hs : a.eval sl = sv) (hI : Tws B w v sv xs ps) (q : Int) (g c : Nat) (hx : a.eval x = .slice (some ⟨g, 0, none⟩) 1 c)
 (hg : w.heap[g]? = some (.cells #[.int .i64 q] 3 (0, 0))) (hl : ps.length ≤ 100000) (hB : B ≤ w.heap.size)
 (h : ∀ v' w', Tws B w' v v' xs (ps ++ [q]) → Below B w w' → wpList Tryz.prog ops Q rest (a.put oo.dst v') w') : wpList Tryz.prog ops Q (oo :: rest) a w := by
 obtain ⟨i0, hi, hz0, hz1, hz2⟩ := infoI5
 have hone : ∀ u ∈ [Value.int .i64 q], u.oneCell' = true := fun u hu => by
  rw [List.mem_singleton.1 hu]; rfl
 refine wpList_append_own_at w hgd sl x 34 ho B 3 i0 _ 1 8 Tryz.underlying34 hi hz0 hz1 hz2 rfl (by omega) sv ps.length (ps.map (Value.int .i64)) hs hI.st ⟨g, 0, none⟩ 1 c [.int .i64 q] hx rfl (cell_row5 hg) hone (by unfold maxLen; omega) (by omega) hB ?_
 intro v' w' h1 h2 _ hat
 have hown := own_lt hI.own
 have hst := own_lt hI.st
 have hne' : ∀ b, b < w.heap.size → sv.ownBlock ≠ some b → v'.ownBlock ≠ some b := fun b hb' hne e => by
  rcases hat with h0 | h0
  · exact hne (h0.symm.trans e)
  · rw [h0] at e
    have : w.heap.size = b := by injection e
    omega
 have hsz := h2.size
 refine h v' w' ⟨own_keep hI.own fun k hk => h2.block k (hown k hk).2 (fun e => hI.apart k hk e.symm), fun y hy => (hI.pairs y hy).keep (fun b hb' => ⟨hb'.1, by omega, hb'.2.2.1, hne' b hb'.2.1 hb'.2.2.2⟩) (fun b hb' => h2.block b hb'.2.1 (fun e => hb'.2.2.2 e.symm)), ?_, fun b hb => hne' b (hown b hb).2 (hI.apart b hb)⟩ ((Below.refl B w).grown h2 hB (fun k hk => (hst k hk).1))
 rw [List.map_append, List.length_append]
 exact h1
def OutA (w : World) (R : Except (Int × Int) (List (Ob × Int))) (e : Ending) (w' : World) : Prop := Below w.heap.size w w' ∧ match R with
 | .ok l => ∃ v sv xs ps, e = .returned (.tuple #[v, sv]) ∧ Tws w.heap.size w' v sv xs ps ∧ l = (fsts xs).zip ps ∧ xs.length = ps.length
 | .error x => e = .panicked [{ v := errV x.1 x.2, recovered := false }]
def readS (l : List Sy.Pg) (cur s : ByteArray) : Except (Int × Int) (List (Ob × Int)) := match scanS s with
 | .error x => .error x
 | .ok ts => readL (symL l cur) numK ts
structure RaR (w w1 wr : World) (g : Nat) (l : List Sy.Pg) (lv : Value) (cur : ByteArray) (R : Except (Int × Int) (List (Ob × Int))) (N : Nat) (v sv : Value) (xs : List (Ob × Value)) (ps : List Int) (ts : List Tk) (f : Nat) : Prop where
 pr : Psr w1 wr g l lv cur ts
 bel : Below w.heap.size w wr
 two : Tws (g + 1) wr v sv xs ps
 eq : allF (symL l cur) numK f ((fsts xs).zip ps) ts = (R, true)
 wf : WfT ts
 ks : TkS ts
 ln : xs.length = ps.length
 le : xs.length + ts.length ≤ N
theorem all_some {t : Tk} {r : List Tk} {f : Nat} {sym : Tk → (List UInt8 × List UInt8) × Int} {num : Tk → Rat} {acc : List (Ob × Int)} {R : Except (Int × Int) (List (Ob × Int))} (h : allF sym num f acc (t :: r) = (R, true)) : ∃ f2, f = f2 + 1 := by
 cases f with
 | zero => unfold allF at h; simp at h
 | succ k => exact ⟨k, rfl⟩
theorem zip_len {xs : List (Ob × Value)} {ps : List Int} (h : xs.length = ps.length) : ((fsts xs).zip ps).length = xs.length := by rw [List.length_zip, fsts_len]; omega
theorem zip_snoc {xs : List (Ob × Value)} {ps : List Int} (h : xs.length = ps.length) (o : Ob) (p : Value) (q : Int) : (fsts (xs ++ [(o, p)])).zip (ps ++ [q]) = (fsts xs).zip ps ++ [(o, q)] := by
 rw [fsts_snoc, List.zip_append (by rw [fsts_len]; exact h)]; rfl
theorem Psr.below {W0 w w' : World} {g B : Nat} {l : List Sy.Pg} {lv : Value} {cur : ByteArray} {ts : List Tk} (h : Psr W0 w g l lv cur ts) (hb : Below B w w') (hB : g < B) : Psr W0 w' g l lv cur ts := by
 obtain ⟨tv, h1, h2, h3, h4⟩ := h
 exact ⟨tv, (hb.block g hB).trans h1, h2, h3.trans (hb.mono (by omega)), h4⟩
theorem allF_tk (sym : Tk → (List UInt8 × List UInt8) × Int) (num : Tk → Rat) (f : Nat) (acc : List (Ob × Int)) (tk tp : Int) (tq tt td : List UInt8) (r : List Tk) : allF sym num (f + 1) acc (⟨tk, tp, tq, tt, td⟩ :: r) =
 if tk = 0 then (.ok acc, true) else
 if acc.length = 100 ∧ tk ≠ 2 ∧ tk ≠ 3 then (.error (2, tp), true) else
 match parF sym num (2 * (r.length + 1) + 2) 0 (⟨tk, tp, tq, tt, td⟩ :: r) with
 | .out => (.error (0, 0), false)
 | .bad e p => (.error (e, p), true)
 | .ok o r => if 3000 < o.nodes then (.error (2, tp), true) else allF sym num f (acc ++ [(o, tp)]) r := by rw [allF_cons]; rfl
theorem retTT5 {fn : Func} {r0 r1 : Tmp} {tmps : Array Value} {w : World} {u v : Value} {Q : Ending → World → Prop} (h : fn.results = #[.tmp r0, .tmp r1]) (h0 : tmps.getD r0 undef = u) (h1 : tmps.getD r1 undef = v) (hQ : Q (.returned (.tuple #[u, v])) w) : bodyPost Tryz.prog fn Q Exit.ret ⟨tmps, []⟩ w := by
 subst h0
 subst h1
 exact bodyPost_ret (v := .tuple #[tmps.getD r0 undef, tmps.getD r1 undef]) (by simp [results, h]) rfl hQ
theorem Tws.lenv {B : Nat} {w : World} {v sv : Value} {xs : List (Ob × Value)} {ps : List Int} (h : Tws B w v sv xs ps) : ∃ A c, v = .slice A xs.length c := by
 rcases h.own.2 with ⟨rfl, hn⟩ | ⟨g, cap, cur, rfl, _⟩
 · exact ⟨none, 0, by rw [hn]⟩
 · exact ⟨_, _, rfl⟩
set_option maxHeartbeats 8000000 in
set_option maxRecDepth 100000 in
theorem readAllP (s cur : ByteArray) (l : List Sy.Pg) (lv : Value) (w : World) (hl : Sy.PgV w l lv) (hpb : PgB l) (hn : SmS s) : Calls Tryz.prog 35 #[lv, .string cur, .string s] w (OutA w (readS l cur s)) := by
 have KS := Lib.hid (scanP s w (by have := hn.size; omega))
 have HL := Lib.hid hl
 obtain ⟨lA, lc, hlv, _⟩ := hl
 subst hlv
 unfold readS
 cases hS : scanS s with
 | error x =>
  rw [hS] at KS
  obtain ⟨x, p⟩ := x
  clear hS hpb hn
  go_enter Tryz.func35, Tryz.ntmps35
  go_wp2_with fail
  refine KS.out.mono ?_
  rintro e w1 ⟨hb, he⟩
  replace he : e = _ := he
  subst he
  exact ⟨rfl, hb, rfl⟩
 | ok ts =>
  rw [hS] at KS
  show Calls _ _ _ _ (OutA w (readL (symL l cur) numK ts))
  obtain ⟨h1, h2, h3⟩ := scanS_ok hS
  have h4 := readL_eq (symL l cur) numK ts h1
  obtain ⟨R, hR⟩ : ∃ R, readL (symL l cur) numK ts = R := ⟨_, rfl⟩
  rw [hR] at h4 ⊢
  have HPB := Lib.hid hpb
  have H1 := Lib.hid h1
  have H2 : Hid (ts.length ≤ 700) := hn.toks ts hS
  have H3 := Lib.hid h3
  have H4 := Lib.hid h4
  clear h1 h2 h3 h4 hR hS hpb hn
  go_enter Tryz.func35, Tryz.ntmps35
  go_wp2_with fail
  refine KS.out.mono ?_
  rintro e w1 ⟨hb, v, rfl, hv⟩
  have HV := Lib.hid hv
  obtain ⟨tA, tc, htv, _⟩ := hv
  subst htv
  have H0 : Hid (RaR w w1 (w1.alloc (.cells #[.slice lA l.length lc, .string cur, .slice tA ts.length tc] 105)) w1.heap.size l (.slice lA l.length lc) cur R ts.length (.slice none 0 0) (.slice none 0 0) [] [] ts ts.length) :=
   ⟨⟨_, heap_alloc_new _ _, Nat.le_refl _, Below.alloc (Below.refl _ _) (Nat.le_refl _) _, HL.out.keep hb, HV.out.less (Nat.zero_le _)⟩, hb.trans (Below.alloc (Below.refl _ _) hb.size _), Tws.start _ _, H4.out, H1.out, H3.out, rfl, by simp⟩
  have HWG : Hid (w.heap.size ≤ w1.heap.size) := hb.size
  obtain ⟨N, hNN⟩ : ∃ N, ts.length = N := ⟨_, rfl⟩
  obtain ⟨f0, hf0⟩ : ∃ f0, f0 = N := ⟨_, rfl⟩
  rw [hNN, ← hf0] at H0
  rw [hNN, ← hf0] at H2
  rw [hNN, ← hf0]
  clear hb HV H4 H1 H3 HL KS hNN hf0
  go_wp2_with fail
  obtain ⟨lv, hlv⟩ : ∃ lv, Value.slice lA l.length lc = lv := ⟨_, rfl⟩
  generalize w1.alloc (.cells #[.slice lA l.length lc, .string cur, .slice tA f0 tc] 105) = W1 at H0 ⊢
  rw [hlv] at H0
  generalize w1.heap.size = g at H0 HWG ⊢
  clear hlv
  go_loopw [6, 7] (fun v u wr => ∃ (xs : List (Ob × Value)) (ps : List Int) (t : Tk) (r : List Tk) (f' : Nat) (vv sv : Value), vv = v ∧ sv = u ∧ Hid (RaR w w1 wr g l lv cur R f0 vv sv xs ps (t :: r) f')) (fun _ _ wr => tkN g wr)
  case atStart =>
   cases ts with
   | nil => exact absurd rfl H0.out.wf.ne
   | cons t r => exact ⟨[], [], t, r, _, _, _, rfl, rfl, H0⟩
  case round =>
   clear H0
   obtain ⟨xs, ps, t, r, f', vv, sv, rfl, rfl, HE⟩ := hrel
   obtain ⟨wo, rfl⟩ : ∃ wo : World, wo = wr := ⟨_, rfl⟩
   have HM := Lib.hid HE.out.pr.tkN
   obtain ⟨f2, hf2⟩ := all_some HE.out.eq
   subst hf2
   obtain ⟨tk, tp, tq, tt, td⟩ := t
   obtain ⟨A, cc, hsl⟩ := HE.out.two.lenv
   obtain ⟨n, hn⟩ : ∃ n, xs.length = n := ⟨_, rfl⟩
   rw [hn] at hsl
   subst hsl
   have hq := HE.out.eq
   rw [allF_tk] at hq
   have hzl := zip_len HE.out.ln
   rw [hn] at hzl
   have HNn := Lib.hid hn
   have KP : Hid (∀ w, Psr w1 w g l lv cur ((⟨tk, tp, tq, tt, td⟩ : Tk) :: r) → Calls Tryz.prog 57 #[.pointer (some ⟨g, 0, none⟩)] w (fun e w' => e = .returned (.int .i64 tk) ∧ w = w')) := fun w h => peekPs w1 w g l lv cur _ r h
   by_cases k0 : tk = 0
   · rw [if_pos k0] at hq
     have HQ : Hid (Except.ok ((fsts xs).zip ps) = R) := by injection hq
     have e0 : (tk != 0) = false := by rw [k0]; rfl
     clear hq k0 hzl hn
     go_wp2_with fail
     refine (KP.out _ HE.out.pr).mono ?_
     rintro e w2 ⟨rfl, rfl⟩
     go_wp2_with fail
     refine retTT5 rfl rfl rfl ?_
     rw [← HQ.out]
     exact ⟨HE.out.bel, _, _, xs, ps, rfl, HE.out.two.less (Nat.le_succ_of_le HWG.out), rfl, HE.out.ln⟩
   · rw [if_neg k0] at hq
     have e0 : (tk != 0) = true := by rw [bne_iff_ne]; exact k0
     have h01 : (0 : Int) < ((r.length + 1 : Nat) : Int) := by omega
     obtain ⟨b, o, c, HC0⟩ := HE.out.pr.open
     have c0 := HC0.c0
     have c1 := HC0.c1
     have c2 := HC0.c2
     have t0 := HC0.t0
     have t1 := HC0.t1
     have t2 := HC0.t2
     have t3 := HC0.t3
     have t4 := HC0.t4
     have hcr := HC0.hc
     have hcm := HC0.hm
     have cf := HC0.cf
     unfold maxLen at hcm
     have HC := Lib.hid HC0
     clear HC0
     by_cases hb1 : n = 100 ∧ tk ≠ 2 ∧ tk ≠ 3
     · rw [if_pos ⟨hzl.trans hb1.1, hb1.2⟩] at hq
       have HQ : Hid (Except.error (2, tp) = R) := by injection hq
       have en : ((n : Int) == 100) = true := by rw [hb1.1]; rfl
       have e2 : (tk != 2) = true := by rw [bne_iff_ne]; exact hb1.2.1
       have e3 : (tk != 3) = true := by rw [bne_iff_ne]; exact hb1.2.2
       clear hq k0 hzl hn hb1
       go_wp2_with fail
       refine (KP.out _ HE.out.pr).mono ?_
       rintro e w2 ⟨rfl, rfl⟩
       go_wp2_with fail
       refine (KP.out _ HE.out.pr).mono ?_
       rintro e w2 ⟨rfl, rfl⟩
       go_wp2_with fail
       refine (KP.out _ HE.out.pr).mono ?_
       rintro e w2 ⟨rfl, rfl⟩
       go_wp2_with fail
       refine (reportP 2 _ _ g).mono ?_
       rintro e w5 ⟨rfl, hb⟩
       have hZ : OutA w R (.panicked [{ v := errV 2 tp, recovered := false }]) w5 := by
        rw [← HQ.out]
        exact ⟨HE.out.bel.trans (hb.below HWG.out (Nat.le_trans HWG.out (Nat.le_of_lt HE.out.pr.lt))), rfl⟩
       exact ⟨rfl, hZ⟩
     · rw [if_neg (by rw [hzl]; exact hb1)] at hq
       have hin := (par_in (symL l cur) numK (2 * (r.length + 1) + 2)).1 0 ((⟨tk, tp, tq, tt, td⟩ : Tk) :: r) HE.out.wf (by simp only [List.length_cons]; omega)
       have KO0 : Hid (∀ w, Psr w1 w g l lv cur ((⟨tk, tp, tq, tt, td⟩ : Tk) :: r) → Calls Tryz.prog 58 #[.pointer (some ⟨g, 0, none⟩), .int .i64 0] w (OutP w1 w g l lv cur (parF (symL l cur) numK (2 * (r.length + 1) + 2) 0 ((⟨tk, tp, tq, tt, td⟩ : Tk) :: r)))) := fun w h => obAll _ w1 w g l lv cur 0 _ h HE.out.wf HE.out.ks HPB.out (by omega) (by omega) hin
       cases hp : parF (symL l cur) numK (2 * (r.length + 1) + 2) 0 ((⟨tk, tp, tq, tt, td⟩ : Tk) :: r) with
       | out => exact absurd hp hin
       | bad x q =>
        rw [hp] at hq
        have HQ : Hid (Except.error (x, q) = R) := by injection hq
        have KO : Hid (∀ w, Psr w1 w g l lv cur ((⟨tk, tp, tq, tt, td⟩ : Tk) :: r) → Calls Tryz.prog 58 #[.pointer (some ⟨g, 0, none⟩), .int .i64 0] w (PanS w g x q)) := fun w h => by
         have := KO0.out w h
         rw [hp] at this
         exact this
        have hcs : ((n : Int) == 100) = false ∨ (((n : Int) == 100) = true ∧ (tk != 2) = false) ∨ (((n : Int) == 100) = true ∧ (tk != 2) = true ∧ (tk != 3) = false) := by
         by_cases hn1 : n = 100
         · right
           have en : ((n : Int) == 100) = true := by rw [hn1]; rfl
           by_cases k2 : tk = 2
           · left; rw [k2]; exact ⟨en, rfl⟩
           · right
             have k3 : tk = 3 := Classical.byContradiction fun e => hb1 ⟨hn1, k2, e⟩
             rw [k3]; exact ⟨en, rfl, rfl⟩
         · left; rw [beq_eq_false_iff_ne]; omega
        clear hq k0 hzl hn hb1 hin KO0 hp
        rcases hcs with en | ⟨en, e2⟩ | ⟨en, e2, e3⟩
        · go_wp2_with fail
          refine (KP.out _ HE.out.pr).mono ?_
          rintro e w2 ⟨rfl, rfl⟩
          go_wp2_with fail
          refine (KO.out _ HE.out.pr).mono ?_
          rintro e w5 ⟨rfl, hb⟩
          have hZ : OutA w R (.panicked [{ v := errV x q, recovered := false }]) w5 := by
           rw [← HQ.out]
           exact ⟨HE.out.bel.trans (hb.below HWG.out (Nat.le_trans HWG.out (Nat.le_of_lt HE.out.pr.lt))), rfl⟩
          exact ⟨rfl, hZ⟩
        · go_wp2_with fail
          refine (KP.out _ HE.out.pr).mono ?_
          rintro e w2 ⟨rfl, rfl⟩
          go_wp2_with fail
          refine (KP.out _ HE.out.pr).mono ?_
          rintro e w2 ⟨rfl, rfl⟩
          go_wp2_with fail
          refine (KO.out _ HE.out.pr).mono ?_
          rintro e w5 ⟨rfl, hb⟩
          have hZ : OutA w R (.panicked [{ v := errV x q, recovered := false }]) w5 := by
           rw [← HQ.out]
           exact ⟨HE.out.bel.trans (hb.below HWG.out (Nat.le_trans HWG.out (Nat.le_of_lt HE.out.pr.lt))), rfl⟩
          exact ⟨rfl, hZ⟩
        · go_wp2_with fail
          refine (KP.out _ HE.out.pr).mono ?_
          rintro e w2 ⟨rfl, rfl⟩
          go_wp2_with fail
          refine (KP.out _ HE.out.pr).mono ?_
          rintro e w2 ⟨rfl, rfl⟩
          go_wp2_with fail
          refine (KP.out _ HE.out.pr).mono ?_
          rintro e w2 ⟨rfl, rfl⟩
          go_wp2_with fail
          refine (KO.out _ HE.out.pr).mono ?_
          rintro e w5 ⟨rfl, hb⟩
          have hZ : OutA w R (.panicked [{ v := errV x q, recovered := false }]) w5 := by
           rw [← HQ.out]
           exact ⟨HE.out.bel.trans (hb.below HWG.out (Nat.le_trans HWG.out (Nat.le_of_lt HE.out.pr.lt))), rfl⟩
          exact ⟨rfl, hZ⟩
       | ok o r1 =>
        rw [hp] at hq
        have hsm := objs_small (symL l cur) numK HE.out.wf (by have := HE.out.le; have := H2.out; omega) 0 hp
        have hpk := (par_ok (symL l cur) numK (2 * (r.length + 1) + 2)).1 0 _ HE.out.wf
        rw [hp] at hpk
        have hsf := (par_suf (symL l cur) numK _).1 0 _ o r1 hp
        have hn1 : n ≠ 100 := fun e => hb1 ⟨e, fun k => by
         subst k; rw [parF_tk] at hp; simp at hp, fun k => by
         subst k; rw [parF_tk] at hp; simp at hp⟩
        have en : ((n : Int) == 100) = false := by rw [beq_eq_false_iff_ne]; omega
        have KO : Hid (∀ w, Psr w1 w g l lv cur ((⟨tk, tp, tq, tt, td⟩ : Tk) :: r) → Calls Tryz.prog 58 #[.pointer (some ⟨g, 0, none⟩), .int .i64 0] w (OutP w1 w g l lv cur (.ok o r1))) := fun w h => by
         have := KO0.out w h
         rw [hp] at this
         exact this
        replace hq : (if 3000 < o.nodes then (Except.error (2, tp), true) else allF (symL l cur) numK f2 ((fsts xs).zip ps ++ [(o, tp)]) r1) = (R, true) := hq
        rw [if_neg (by omega), ← zip_snoc HE.out.ln o undef tp] at hq
        have HQ := Lib.hid hq
        have HPK := Lib.hid (And.intro hpk.1 (And.intro hpk.2.1 (HE.out.ks.suf hsf)))
        have hxl : xs.length ≤ 100000 := by have := HE.out.le; have := H2.out; omega
        have HXL := Lib.hid hxl
        have e3k : ¬ (3000 : Int) < (o.nodes : Int) := by omega
        have HSM := Lib.hid hsm
        have HLN := Lib.hid HE.out.ln
        have HLE := Lib.hid HE.out.le
        clear hq k0 hzl hn hb1 hin KO0 hp hpk hsf hn1 hxl hsm
        go_wp2_with fail
        refine (KP.out _ HE.out.pr).mono ?_
        rintro e w2 ⟨rfl, rfl⟩
        go_wp2_with fail
        refine (KO.out _ HE.out.pr).mono ?_
        rintro e w5 ⟨p, rfl, hp, hps, hb⟩
        obtain ⟨x0, x1, x2, x3, x4, x5, hz⟩ := cells7 o p
        have HZ : Hid (Val7 o p x0 x1 x2 x3 x4 x5) := hz
        have HG1 := Lib.hid HE.out.pr.lt
        have HP5 := Lib.hid (show Pair w5 (fun b => g + 1 ≤ b ∧ b < w5.heap.size ∧ (Value.slice A n cc).ownBlock ≠ some b ∧ sv.ownBlock ≠ some b) o p from hp.more fun b hb' => ⟨by have := HG1.out; omega, hb'.2, fun e => by have := (own_lt HE.out.two.own b e).2; omega, fun e => by have := (own_lt HE.out.two.st b e).2; omega⟩)
        have HT5 := Lib.hid (HE.out.two.but hb (Nat.lt_succ_self _))
        have HB5 := Lib.hid (HE.out.bel.trans (hb.below HWG.out (Nat.le_trans HWG.out (Nat.le_of_lt HG1.out))))
        have hal := Lib.hid (show Below w5.heap.size w5 ((w5.alloc (.cells #[.int .i64 0, .string ⟨#[]⟩, .string ⟨#[]⟩, .string ⟨#[]⟩, .string ⟨#[]⟩, .string ⟨#[]⟩, .slice none 0 0] 47)).setRow w5.heap.size (cellsO o p).toArray) from below_setRowO (Below.alloc (Below.refl _ _) (Nat.le_refl _) _) (Nat.le_refl _) _)
        have HO6 : Hid (ObB ((w5.alloc (.cells #[.int .i64 0, .string ⟨#[]⟩, .string ⟨#[]⟩, .string ⟨#[]⟩, .string ⟨#[]⟩, .string ⟨#[]⟩, .slice none 0 0] 47)).setRow w5.heap.size (cellsO o p).toArray) w5.heap.size #[x0, x1, x2, x3, x4, x5, p]) := (setRow_heap _ _ _ _ _ _ (heap_alloc_new w5 _)).trans (by rw [hz])
        have HR6 := Lib.hid (hps.keep hal.out)
        have HT6 := Lib.hid (HT5.out.keep hal.out)
        have HB6 := Lib.hid (HB5.out.trans (hal.out.mono HB5.out.size))
        have HP6 := Lib.hid (HP5.out.keep (S' := fun b => g + 1 ≤ b ∧ b < ((w5.alloc (.cells #[.int .i64 0, .string ⟨#[]⟩, .string ⟨#[]⟩, .string ⟨#[]⟩, .string ⟨#[]⟩, .string ⟨#[]⟩, .slice none 0 0] 47)).setRow w5.heap.size (cellsO o p).toArray).heap.size ∧ (Value.slice A n cc).ownBlock ≠ some b ∧ sv.ownBlock ≠ some b) (fun b hb' => ⟨hb'.1, by have := hal.out.size; omega, hb'.2.2⟩) (fun b hb' => hal.out.block b hb'.2.1))
        clear hps hb hz HE HP5 HT5 HB5 hal c0 c1 c2 t0 t1 t2 t3 t4 cf HC
        go_upto_region 7 with (refine storeV rfl (.tmp 10) (.tmp 43) rfl w5.heap.size o p rfl rfl hp 47 _ (heap_alloc_new w5 _) rfl ?_)
        clear hp
        generalize ((w5.alloc (.cells #[.int .i64 0, .string ⟨#[]⟩, .string ⟨#[]⟩, .string ⟨#[]⟩, .string ⟨#[]⟩, .string ⟨#[]⟩, .slice none 0 0] 47)).setRow w5.heap.size (cellsO o p).toArray) = W6 at HO6 HR6 HT6 HB6 HP6 ⊢
        generalize w5.heap.size = g10 at HO6 ⊢
        have KN := Lib.hid (nodesP o p W6 _ (fun b hb => hb.2.1) HP6.out (by have := HSM.out; omega))
        have hzz := HZ.out
        unfold Val7 at hzz
        unfold vO at KN
        rw [hzz] at KN
        clear hzz
        obtain ⟨m0, m1, m2, m3, m4, m5, m6⟩ := HO6.out.c
        go_wp2_with fail
        refine KN.out.mono ?_
        rintro e w7 ⟨rfl, hb⟩
        have HO7 := Lib.hid (HO6.out.keep hb)
        have HR7 := Lib.hid (HR6.out.keep hb)
        have HT7 := Lib.hid (HT6.out.keep hb)
        have HB7 := Lib.hid (HB6.out.trans (hb.mono HB6.out.size))
        have HP7 := Lib.hid (HP6.out.keep (S' := fun b => g + 1 ≤ b ∧ b < w7.heap.size ∧ (Value.slice A n cc).ownBlock ≠ some b ∧ sv.ownBlock ≠ some b) (fun b hb' => ⟨hb'.1, by have := hb.size; omega, hb'.2.2⟩) (fun b hb' => hb.block b hb'.2.1))
        clear m0 m1 m2 m3 m4 m5 m6 hb HO6 HR6 HT6 HB6 HP6 KN
        obtain ⟨m0, m1, m2, m3, m4, m5, m6⟩ := HO7.out.c
        have hal := Lib.hid (show Below w7.heap.size w7 (w7.alloc (.cells #[x0, x1, x2, x3, x4, x5, p] 47)) from Below.alloc (Below.refl _ _) (Nat.le_refl _) _)
        have hnw := Lib.hid (heap_alloc_new w7 (.cells #[x0, x1, x2, x3, x4, x5, p] 47))
        have HR8 := Lib.hid (HR7.out.keep hal.out)
        have HT8 := Lib.hid (HT7.out.keep hal.out)
        have HB8 := Lib.hid (HB7.out.trans (hal.out.mono HB7.out.size))
        have HP8 := Lib.hid (HP7.out.keep (S' := fun b => g + 1 ≤ b ∧ b < (w7.alloc (.cells #[x0, x1, x2, x3, x4, x5, p] 47)).heap.size ∧ (Value.slice A n cc).ownBlock ≠ some b ∧ sv.ownBlock ≠ some b) (fun b hb' => ⟨hb'.1, by have := hal.out.size; omega, hb'.2.2⟩) (fun b hb' => hal.out.block b hb'.2.1))
        have HS8 := Lib.hid (show g + 1 ≤ (w7.alloc (.cells #[x0, x1, x2, x3, x4, x5, p] 47)).heap.size from HR8.out.lt)
        go_wp2_with (at_builtin; refine appTwo1 rfl (.tmp 49) (.tmp 51) rfl rfl HT8.out o p x0 x1 x2 x3 x4 x5 HZ.out w7.heap.size 1 rfl hnw.out HP8.out HXL.out HS8.out ?_)
        intro v9 w9 ht9 hb9
        have HT9 := Lib.hid ht9
        have HR9 := Lib.hid (HR8.out.below hb9 (Nat.lt_succ_self _))
        have HB9 := Lib.hid (HB8.out.trans (hb9.mono (Nat.le_succ_of_le HWG.out)))
        clear m0 m1 m2 m3 m4 m5 m6 ht9 hb9 hal hnw HO7 HR7 HT7 HB7 HP7 HR8 HT8 HB8 HP8 HS8
        have hal := Lib.hid (show Below w9.heap.size w9 (w9.alloc (.cells #[.int .i64 tp] 3)) from Below.alloc (Below.refl _ _) (Nat.le_refl _) _)
        have hnw := Lib.hid (heap_alloc_new w9 (.cells #[.int .i64 tp] 3))
        have HR10 := Lib.hid (HR9.out.keep hal.out)
        have HT10 := Lib.hid (HT9.out.keep hal.out)
        have HB10 := Lib.hid (HB9.out.trans (hal.out.mono HB9.out.size))
        have HS10 := Lib.hid (show g + 1 ≤ (w9.alloc (.cells #[.int .i64 tp] 3)).heap.size from HR10.out.lt)
        have HPL : Hid (ps.length ≤ 100000) := by have := HXL.out; have := HLN.out; show _ ≤ _; omega
        go_wp2_with (at_builtin; refine appTwo2 rfl (.tmp 53) (.tmp 55) rfl rfl HT10.out tp w9.heap.size 1 rfl hnw.out HPL.out HS10.out ?_)
        intro v11 w11 ht11 hb11
        have HQ2 : Hid (allF (symL l cur) numK f2 ((fsts (xs ++ [(o, p)])).zip (ps ++ [tp])) r1 = (R, true)) := by
         show _ = _
         rw [zip_snoc HLN.out, ← zip_snoc HLN.out o undef tp]
         exact HQ.out
        have HT11 : Hid (RaR w w1 w11 g l lv cur R f0 v9 v11 (xs ++ [(o, p)]) (ps ++ [tp]) r1 f2) := ⟨HR10.out.below hb11 (Nat.lt_succ_self _), HB10.out.trans (hb11.mono (Nat.le_succ_of_le HWG.out)), ht11, HQ2.out, HPK.out.1, HPK.out.2.2, by have := HLN.out; simp only [List.length_append, List.length_cons, List.length_nil]; omega, by have := HLE.out; have := HPK.out.2.1; simp only [List.length_append, List.length_cons, List.length_nil] at *; omega⟩
        have hms : tkN g w11 < tkN g wo := by rw [HM.out, HT11.out.pr.tkN]; have := HPK.out.2.1; simp only [List.length_cons] at *; omega
        have HW7 := Lib.hid HPK.out.1
        clear ht11 hb11 hal hnw
        go_wp2_with fail
        go_roundw
        case rel =>
         cases r1 with
         | nil => exact absurd rfl HW7.out.ne
         | cons t2 r2 => exact ⟨_, _, t2, r2, f2, _, _, rfl, rfl, HT11⟩
        case measure => exact hms
set_option maxHeartbeats 8000000
set_option maxRecDepth 100000

theorem catchRd (g : Nat) (x y : Value) (e p : Int) (older : List PanicEntry) (w : World) (h : EB w g x y) : CallsD Tryz.prog 34 #[.pointer (some ⟨g, 0, none⟩)] (.panicking ({ v := errV e p, recovered := false } :: older)) w fun e' u' w' =>
 e' = .returned (.tuple #[]) ∧ u' = .panicking ({ v := errV e p, recovered := true } :: older) ∧ Cat w g e p w' := by
 refine callsD_of_wpS Tryz.func34 rfl fun c₀ cs hu => ?_
 apply wpS_region
 simp [wpOpsS, go_sem, recoverD, hu, Tryz.ntmps34]
 refine (reportedP e p w).mono ?_
 rintro e' w1 ⟨rfl, hb⟩
 have h1 := h.keep hb
 have c0 := h1.c0
 have c1 := h1.c1
 have f0 : w1.frozen? ⟨g, 0, none⟩ = false := h1.fr
 have f1 : w1.frozen? ⟨g, 1, none⟩ = false := h1.fr
 simp [storeCells, go_sem, c0, c1, f0, f1, bodyPostS, results, Tryz.results34]
 exact Cat.mk_ h hb
theorem idleRd (g : Nat) (x y : Value) (w : World) (h : EB w g x y) : CallsD Tryz.prog 34 #[.pointer (some ⟨g, 0, none⟩)] .returning w fun e' u' w' =>
 e' = .returned (.tuple #[]) ∧ u' = .returning ∧ Cat w g 0 0 w' := by
 refine callsD_of_wpS Tryz.func34 rfl fun c₀ cs hu => ?_
 apply wpS_region
 simp [wpOpsS, go_sem, recoverD, hu, Tryz.ntmps34]
 refine (reportedN w).mono ?_
 rintro e' w1 ⟨rfl, hb⟩
 have h1 := h.keep hb
 have c0 := h1.c0
 have c1 := h1.c1
 have f0 : w1.frozen? ⟨g, 0, none⟩ = false := h1.fr
 have f1 : w1.frozen? ⟨g, 1, none⟩ = false := h1.fr
 simp [storeCells, go_sem, c0, c1, f0, f1, bodyPostS, results, Tryz.results34]
 exact ⟨.returning, by cases c₀; simp_all, rfl, Cat.mk_ h hb⟩
theorem catchOn (g : Nat) (x y : Value) (e p : Int) (older : List PanicEntry) (w : World) (h : EB w g x y) : CallsD Tryz.prog 39 #[.pointer (some ⟨g, 0, none⟩)] (.panicking ({ v := errV e p, recovered := false } :: older)) w fun e' u' w' =>
 e' = .returned (.tuple #[]) ∧ u' = .panicking ({ v := errV e p, recovered := true } :: older) ∧ Cat w g e p w' := by
 refine callsD_of_wpS Tryz.func39 rfl fun c₀ cs hu => ?_
 apply wpS_region
 simp [wpOpsS, go_sem, recoverD, hu, Tryz.ntmps39]
 refine (reportedP e p w).mono ?_
 rintro e' w1 ⟨rfl, hb⟩
 have h1 := h.keep hb
 have c0 := h1.c0
 have c1 := h1.c1
 have f0 : w1.frozen? ⟨g, 0, none⟩ = false := h1.fr
 have f1 : w1.frozen? ⟨g, 1, none⟩ = false := h1.fr
 simp [storeCells, go_sem, c0, c1, f0, f1, bodyPostS, results, Tryz.results39]
 exact Cat.mk_ h hb
theorem idleOn (g : Nat) (x y : Value) (w : World) (h : EB w g x y) : CallsD Tryz.prog 39 #[.pointer (some ⟨g, 0, none⟩)] .returning w fun e' u' w' =>
 e' = .returned (.tuple #[]) ∧ u' = .returning ∧ Cat w g 0 0 w' := by
 refine callsD_of_wpS Tryz.func39 rfl fun c₀ cs hu => ?_
 apply wpS_region
 simp [wpOpsS, go_sem, recoverD, hu, Tryz.ntmps39]
 refine (reportedN w).mono ?_
 rintro e' w1 ⟨rfl, hb⟩
 have h1 := h.keep hb
 have c0 := h1.c0
 have c1 := h1.c1
 have f0 : w1.frozen? ⟨g, 0, none⟩ = false := h1.fr
 have f1 : w1.frozen? ⟨g, 1, none⟩ = false := h1.fr
 simp [storeCells, go_sem, c0, c1, f0, f1, bodyPostS, results, Tryz.results39]
 exact ⟨.returning, by cases c₀; simp_all, rfl, Cat.mk_ h hb⟩
theorem ObB.run {w : World} {g : Nat} {x0 x1 x2 x3 x4 x5 x6 : Value} (hg : ObB w g #[x0, x1, x2, x3, x4, x5, x6]) : (loadVar 47 ⟨g, 0, none⟩).run Tryz.prog w = .ok (.agg #[x0, x1, x2, x3, x4, x5, x6]) w :=
 run_loadVar_row w g 47 47 #[x0, x1, x2, x3, x4, x5, x6] (0, 0) _ hg Tryz.underlying47 rfl (by kernel_rfl)
theorem resCC {fn : Func} {r0 r1 : Tmp} {tmps : Array Value} {w : World} {g k : Nat} {x0 x1 x2 x3 x4 x5 x6 u v : Value} (h : fn.results = #[.cell r0 47, .cell r1 26]) (h0 : tmps.getD r0 undef = .pointer (some ⟨g, 0, none⟩)) (h1 : tmps.getD r1 undef = .pointer (some ⟨k, 0, none⟩))
 (hx : ObB w g #[x0, x1, x2, x3, x4, x5, x6]) (hg : EB w k u v) : (results fn tmps).run Tryz.prog w = .ok (.tuple #[.agg #[x0, x1, x2, x3, x4, x5, x6], .agg #[u, v]]) w := by
 have h0' : tmps[r0]?.getD undef = .pointer (some ⟨g, 0, none⟩) := by simpa using h0
 have h1' : tmps[r1]?.getD undef = .pointer (some ⟨k, 0, none⟩) := by simpa using h1
 simp [results, h, h0', h1', asAddr, hg.run, hx.run]
def OutRd (w : World) (R : Except (Int × Int) (List (Ob × Int))) (e : Ending) (w' : World) : Prop := Below w.heap.size w w' ∧ match R with
 | .ok l => ∃ v xs, e = .returned (.tuple #[v, .agg #[.int .i64 0, .int .i64 0]]) ∧ ItL w.heap.size w' v xs ∧ fsts xs = l.map (·.1)
 | .error x => e = .returned (.tuple #[.slice none 0 0, .agg #[.int .i64 x.1, .int .i64 x.2]])
theorem Tws.it {B : Nat} {w : World} {v sv : Value} {xs : List (Ob × Value)} {ps : List Int} (h : Tws B w v sv xs ps) : ItL B w v xs := ⟨h.own, fun x hx => (h.pairs x hx).more fun b hb => ⟨hb.1, hb.2.1, hb.2.2.1⟩⟩
theorem ItL.less {B B' : Nat} {w : World} {v : Value} {xs : List (Ob × Value)} (h : ItL B w v xs) (hB : B' ≤ B) : ItL B' w v xs := by
 refine ⟨⟨h.own.1, ?_⟩, fun x hx => (h.pairs x hx).more fun b hb => ⟨by omega, hb.2⟩⟩
 rcases h.own.2 with h0 | ⟨g, cap, cur, rfl, hb, hr⟩
 · exact .inl h0
 · exact .inr ⟨g, cap, cur, rfl, by omega, hr⟩
theorem zip_fst {xs : List (Ob × Value)} {ps : List Int} (h : xs.length = ps.length) : fsts xs = ((fsts xs).zip ps).map (·.1) := by
 rw [List.map_fst_zip (by rw [fsts_len]; omega)]
def oneS (l : List Sy.Pg) (cur s : ByteArray) : Except (Int × Int) Ob := match readS l cur s with
 | .error x => .error x
 | .ok [] => .error (11, s.size)
 | .ok [x] => .ok x.1
 | .ok (_ :: y :: _) => .error (12, y.2)
def OutOn (w : World) (R : Except (Int × Int) Ob) (e : Ending) (w' : World) : Prop := Below w.heap.size w w' ∧ match R with
 | .ok o => ∃ p, e = .returned (.tuple #[vO o p, .agg #[.int .i64 0, .int .i64 0]]) ∧ Pair w' (fun b => w.heap.size ≤ b ∧ b < w'.heap.size) o p
 | .error x => e = .returned (.tuple #[.agg #[.int .i64 0, .string ⟨#[]⟩, .string ⟨#[]⟩, .string ⟨#[]⟩, .string ⟨#[]⟩, .string ⟨#[]⟩, .slice none 0 0], .agg #[.int .i64 x.1, .int .i64 x.2]])
theorem readPr (s cur : ByteArray) (l : List Sy.Pg) (lv : Value) (w : World) (hl : Sy.PgV w l lv) (hpb : PgB l) (hn : SmS s) : Calls Tryz.prog 15 #[lv, .string cur, .string s] w (OutRd w (readS l cur s)) := by
 have hmf : ∀ (fn : Fn) (first cap : Array Value) (w : World), (Instr.makeFunc fn first cap).run Tryz.prog w = .ok (.func fn first cap) w := fun _ _ _ _ => rfl
 have T0 := Lib.hid (EB.new w (.int .i64 0) (.int .i64 0))
 have HB := Lib.hid (show Below w.heap.size w (w.alloc (.cells #[.int .i64 0, .int .i64 0] 26)) from Below.alloc (Below.refl _ _) (Nat.le_refl _) _)
 have KS := Lib.hid (readAllP s cur l lv (w.alloc (.cells #[.int .i64 0, .int .i64 0] 26)) (hl.keep HB.out) hpb hn)
 clear hl hpb hn
 cases hR : readS l cur s with
 | error x =>
  rw [hR] at KS
  obtain ⟨x, p⟩ := x
  clear hR
  go_enter_defers Tryz.func15, Tryz.ntmps15
  go_wp2_with fail
  refine KS.out.mono ?_
  rintro e w2 ⟨hb, he⟩
  replace he : e = _ := he
  subst he
  refine leaves_cons (f := 34) (args := #[.pointer (some ⟨w.heap.size, 0, none⟩)]) (by simp) (by simp [go_sem]) ?_
  refine (catchRd w.heap.size _ _ x p [] w2 (T0.out.keep hb)).mono ?_
  rintro e u' w3 ⟨rfl, rfl, hC⟩
  exact leaves_end (resTE rfl rfl rfl hC.1) ⟨HB.out.trans ((But.of hb).trans hC.2 |>.below (Nat.le_refl _) HB.out.size), rfl⟩
 | ok os =>
  rw [hR] at KS
  clear hR
  go_enter_defers Tryz.func15, Tryz.ntmps15
  go_wp2_with fail
  refine KS.out.mono ?_
  rintro e w2 ⟨hb, v, sv, xs, ps, rfl, ht, hos, hln⟩
  have HV := Lib.hid ht.it
  have HF := Lib.hid (show fsts xs = os.map (·.1) from by rw [hos]; exact zip_fst hln)
  have T2 := Lib.hid (T0.out.keep hb)
  have c0 := T2.out.c0
  have c1 := T2.out.c1
  have f0 : w2.frozen? ⟨w.heap.size, 0, none⟩ = false := T2.out.fr
  have f1 : w2.frozen? ⟨w.heap.size, 1, none⟩ = false := T2.out.fr
  have HB2 := Lib.hid (chain5 HB.out hb)
  clear ht hos hln hb
  go_wp2_with fail
  clear c0 c1 f0 f1
  refine leaves_cons (f := 34) (args := #[.pointer (some ⟨w.heap.size, 0, none⟩)]) (by simp) (by simp [go_sem]) ?_
  refine (idleRd w.heap.size _ _ _ (T2.out.cell2 _ _)).mono ?_
  rintro e u' w3 ⟨rfl, rfl, hC⟩
  have hbt := ((But.set w2 0 (.int .i64 0)).trans (But.set _ 1 (.int .i64 0))).trans hC.2
  refine leaves_end (resTE rfl rfl rfl hC.1) ⟨HB2.out.trans (hbt.below (Nat.le_refl _) HB2.out.size), v, xs, rfl, ?_, HF.out⟩
  have hv : ItL (w.heap.size + 1) w2 v xs := by have := HV.out; simpa using this
  exact (hv.but hbt (Nat.lt_succ_self _)).less (Nat.le_succ _)
theorem own_cells {w : World} {B : Nat} {e : TypeId} {z n : Nat} {v : Value} {ys : List Value} (h : w.ownsRow B e z v n ys) (hn : 0 < n) : ∃ b c, v = .slice (some ⟨b, 0, none⟩) n c ∧ n ≤ c ∧ c ≤ maxLen ∧ B ≤ b ∧ b < w.heap.size ∧ ∀ j u, ys[j]? = some u → w.cell? ⟨b, j, none⟩ = some u := by
 rcases h.2 with ⟨rfl, h0⟩ | ⟨gb, cap, cur', rfl, hb, hh, hn', hm, hcs, hcur⟩
 · omega
 · refine ⟨gb, cap, rfl, ?_, ?_, hb, Sy.blk_ltY hh, fun j u hj => ?_⟩
   · omega
   · omega
   · rw [cell_of_row _ _ _ _ _ _ hh]
     rw [← hcur] at hj
     rw [List.getElem?_take] at hj
     split at hj
     · simpa using hj
     · cases hj
theorem EB.row {W : World} {g b : Nat} {x y : Value} (h : EB W g x y) (hb : g ≠ b) (cs : Array Value) : EB (W.setRow b cs) g x y := (setRow_other _ _ _ _ hb).trans h
set_option maxHeartbeats 8000000 in
set_option maxRecDepth 100000 in
theorem onePr (s cur : ByteArray) (l : List Sy.Pg) (lv : Value) (w : World) (hl : Sy.PgV w l lv) (hpb : PgB l) (hn : SmS s) : Calls Tryz.prog 19 #[lv, .string cur, .string s] w (OutOn w (oneS l cur s)) := by
 have hmf : ∀ (fn : Fn) (first cap : Array Value) (w : World), (Instr.makeFunc fn first cap).run Tryz.prog w = .ok (.func fn first cap) w := fun _ _ _ _ => rfl
 have T0 : Hid (EB ((w.alloc (.cells #[.int .i64 0, .string ⟨#[]⟩, .string ⟨#[]⟩, .string ⟨#[]⟩, .string ⟨#[]⟩, .string ⟨#[]⟩, .slice none 0 0] 47)).alloc (.cells #[.int .i64 0, .int .i64 0] 26)) (w.heap.size + 1) (.int .i64 0) (.int .i64 0)) := heap_alloc2_new w _ _
 have B0 : Hid (ObB ((w.alloc (.cells #[.int .i64 0, .string ⟨#[]⟩, .string ⟨#[]⟩, .string ⟨#[]⟩, .string ⟨#[]⟩, .string ⟨#[]⟩, .slice none 0 0] 47)).alloc (.cells #[.int .i64 0, .int .i64 0] 26)) w.heap.size #[.int .i64 0, .string ⟨#[]⟩, .string ⟨#[]⟩, .string ⟨#[]⟩, .string ⟨#[]⟩, .string ⟨#[]⟩, .slice none 0 0]) := heap_old1 w _ _
 have HB := Lib.hid (show Below w.heap.size w ((w.alloc (.cells #[.int .i64 0, .string ⟨#[]⟩, .string ⟨#[]⟩, .string ⟨#[]⟩, .string ⟨#[]⟩, .string ⟨#[]⟩, .slice none 0 0] 47)).alloc (.cells #[.int .i64 0, .int .i64 0] 26)) from al2 w _ _)
 have KS := Lib.hid (readAllP s cur l lv ((w.alloc (.cells #[.int .i64 0, .string ⟨#[]⟩, .string ⟨#[]⟩, .string ⟨#[]⟩, .string ⟨#[]⟩, .string ⟨#[]⟩, .slice none 0 0] 47)).alloc (.cells #[.int .i64 0, .int .i64 0] 26)) (hl.keep HB.out) hpb hn)
 clear hl hpb hn
 unfold oneS
 cases hR : readS l cur s with
 | error x =>
  rw [hR] at KS
  obtain ⟨x, p⟩ := x
  clear hR
  go_enter_defers Tryz.func19, Tryz.ntmps19
  go_wp2_with fail
  refine KS.out.mono ?_
  rintro e w2 ⟨hb, he⟩
  replace he : e = _ := he
  subst he
  have HB2 := Lib.hid (chain5 HB.out hb)
  have B2 := Lib.hid (B0.out.keep hb)
  refine leaves_cons (f := 39) (args := #[.pointer (some ⟨w.heap.size + 1, 0, none⟩)]) (by simp) (by simp [go_sem]) ?_
  refine (catchOn (w.heap.size + 1) _ _ x p [] w2 (T0.out.keep hb)).mono ?_
  rintro e u' w3 ⟨rfl, rfl, hC⟩
  exact leaves_end (resCC rfl rfl rfl (B2.out.but hC.2 (by omega)) hC.1) ⟨HB2.out.trans (hC.2.below (Nat.le_succ _) HB2.out.size), rfl⟩
 | ok os =>
  rw [hR] at KS
  clear hR
  match os with
  | [] =>
   show Calls _ _ _ _ (OutOn w (.error (11, (s.size : Int))))
   go_enter_defers Tryz.func19, Tryz.ntmps19
   go_wp2_with fail
   refine KS.out.mono ?_
   rintro e w2 ⟨hb, v, sv, xs, ps, rfl, ht, hos, hln⟩
   obtain rfl : xs = [] := by
    cases xs with
    | nil => rfl
    | cons x xs => cases ps with
     | nil => simp at hln
     | cons p ps => simp [fsts] at hos
   obtain ⟨A, c, rfl⟩ := ht.lenv
   have HB2 := Lib.hid (chain5 HB.out hb)
   have B2 := Lib.hid (B0.out.keep hb)
   have T2 := Lib.hid (T0.out.keep hb)
   clear ht hos hln hb
   go_wp2_with fail
   refine (reportB 11 _ _).mono ?_
   rintro e w2 ⟨rfl, rfl⟩
   refine leaves_cons (f := 39) (args := #[.pointer (some ⟨w.heap.size + 1, 0, none⟩)]) (by simp) (by simp [go_sem]) ?_
   refine (catchOn (w.heap.size + 1) _ _ 11 (s.size : Int) [] w2 T2.out).mono ?_
   rintro e u' w3 ⟨rfl, rfl, hC⟩
   exact leaves_end (resCC rfl rfl rfl (B2.out.but hC.2 (by omega)) hC.1) ⟨HB2.out.trans (hC.2.below (Nat.le_succ _) HB2.out.size), rfl⟩
  | x :: y :: os =>
   show Calls _ _ _ _ (OutOn w (.error (12, y.2)))
   go_enter_defers Tryz.func19, Tryz.ntmps19
   go_wp2_with fail
   refine KS.out.mono ?_
   rintro e w2 ⟨hb, v, sv, xs, ps, rfl, ht, hos, hln⟩
   obtain ⟨p1, ps', rfl⟩ : ∃ p1 ps', ps = p1 :: y.2 :: ps' := by
    cases xs with
    | nil => simp [fsts] at hos
    | cons a xs => cases ps with
     | nil => simp at hln
     | cons p ps => cases xs with
      | nil => simp [fsts] at hos
      | cons b xs => cases ps with
       | nil => simp at hln
       | cons q ps =>
        simp [fsts] at hos
        exact ⟨p, ps, by rw [hos.2.1]⟩
   obtain ⟨A, c, rfl⟩ := ht.lenv
   obtain ⟨sb, sc, rfl, _, _, _, _, hcell⟩ := own_cells ht.st (by simp)
   have s1 := hcell 1 (.int .i64 y.2) rfl
   have HB2 := Lib.hid (chain5 HB.out hb)
   have B2 := Lib.hid (B0.out.keep hb)
   have T2 := Lib.hid (T0.out.keep hb)
   obtain ⟨n, hn⟩ : ∃ n, xs.length = n := ⟨_, rfl⟩
   obtain ⟨m, hm⟩ : ∃ m, (p1 :: y.2 :: ps').length = m := ⟨_, rfl⟩
   have hm2 : 2 ≤ m := by rw [← hm]; simp
   rw [hn, hm] at hln
   rw [hn, hm]
   have e1 : ((n : Int) == 0) = false := by rw [beq_eq_false_iff_ne]; omega
   have e2 : (1 : Int) < (n : Int) := by omega
   have e3 : (1 : Int) < (m : Int) := by omega
   clear ht hos hb hcell hn hm
   go_wp2_with fail
   refine (reportB 12 _ _).mono ?_
   rintro e w2 ⟨rfl, rfl⟩
   refine leaves_cons (f := 39) (args := #[.pointer (some ⟨w.heap.size + 1, 0, none⟩)]) (by simp) (by simp [go_sem]) ?_
   refine (catchOn (w.heap.size + 1) _ _ 12 y.2 [] w2 T2.out).mono ?_
   rintro e u' w3 ⟨rfl, rfl, hC⟩
   exact leaves_end (resCC rfl rfl rfl (B2.out.but hC.2 (by omega)) hC.1) ⟨HB2.out.trans (hC.2.below (Nat.le_succ _) HB2.out.size), rfl⟩
  | [x] =>
   show Calls _ _ _ _ (OutOn w (.ok x.1))
   obtain ⟨o, q⟩ := x
   go_enter_defers Tryz.func19, Tryz.ntmps19
   go_wp2_with fail
   refine KS.out.mono ?_
   rintro e w2 ⟨hb, v, sv, xs, ps, rfl, ht, hos, hln⟩
   obtain ⟨p, rfl⟩ : ∃ p, xs = [(o, p)] := by
    cases xs with
    | nil => simp [fsts] at hos
    | cons a xs => cases ps with
     | nil => simp at hln
     | cons p ps => cases xs with
      | nil =>
       simp [fsts] at hos
       obtain ⟨ao, ap⟩ := a
       obtain ⟨rfl, rfl⟩ := hos
       exact ⟨ap, rfl⟩
      | cons b xs => cases ps with
       | nil => simp at hln
       | cons q ps => simp [fsts] at hos
   obtain ⟨gb, c, rfl, hc1, hc2, hbb, hlt, hcell⟩ := own_cells ht.own (by simp)
   obtain ⟨x0, x1, x2, x3, x4, x5, hz⟩ := cells7 o p
   have hcell' : ∀ j u, [x0, x1, x2, x3, x4, x5, p][j]? = some u → w2.cell? ⟨gb, j, none⟩ = some u := fun j u hj => hcell j u (by simp only [flatC, List.flatMap_cons, List.flatMap_nil, List.append_nil, hz]; exact hj)
   have l0 := hcell' 0 _ rfl
   have l1 := hcell' 1 _ rfl
   have l2 := hcell' 2 _ rfl
   have l3 := hcell' 3 _ rfl
   have l4 := hcell' 4 _ rfl
   have l5 := hcell' 5 _ rfl
   have l6 := hcell' 6 _ rfl
   have hp := ht.pairs (o, p) (by simp)
   have ev := Lib.hid (show Value.agg #[x0, x1, x2, x3, x4, x5, p] = vO o p from by unfold vO; rw [hz])
   have HP := Lib.hid (show Pair w2 (fun b => w.heap.size + 2 ≤ b ∧ b < w2.heap.size) o p from hp.more fun b hb => ⟨by have := hb.1; simp at this; omega, hb.2.1⟩)
   have HB2 := Lib.hid (chain5 HB.out hb)
   have B2 := Lib.hid (B0.out.keep hb)
   have T2 := Lib.hid ((T0.out.keep hb).row (b := w.heap.size) (by omega) (cellsO o p).toArray)
   have B3 := Lib.hid (show ObB (w2.setRow w.heap.size (cellsO o p).toArray) w.heap.size #[x0, x1, x2, x3, x4, x5, p] from (setRow_heap _ _ _ _ _ _ B2.out).trans (by rw [hz]))
   have c0 := T2.out.c0
   have c1 := T2.out.c1
   have f0 : (w2.setRow w.heap.size (cellsO o p).toArray).frozen? ⟨w.heap.size + 1, 0, none⟩ = false := T2.out.fr
   have f1 : (w2.setRow w.heap.size (cellsO o p).toArray).frozen? ⟨w.heap.size + 1, 1, none⟩ = false := T2.out.fr
   clear ht hos hln hb hcell hcell' hp hz
   go_wp2_with (refine storeV rfl (.tmp 6) (.tmp 33) rfl w.heap.size o p rfl ev.out HP.out 47 _ B2.out rfl ?_)
   clear c0 c1 f0 f1 l0 l1 l2 l3 l4 l5 l6
   have HB3 := Lib.hid (below_setRowO HB2.out (Nat.le_refl _) (cellsO o p).toArray)
   have HP3 := Lib.hid (show Pair (w2.setRow w.heap.size (cellsO o p).toArray) (fun b => w.heap.size + 2 ≤ b ∧ b < (w2.setRow w.heap.size (cellsO o p).toArray).heap.size) o p from HP.out.keep (fun b hb => ⟨hb.1, by rw [setRow_size]; exact hb.2⟩) (fun b hb => setRow_other _ _ _ _ (by omega)))
   generalize w2.setRow w.heap.size (cellsO o p).toArray = W3 at B3 T2 HB3 HP3 ⊢
   refine leaves_cons (f := 39) (args := #[.pointer (some ⟨w.heap.size + 1, 0, none⟩)]) (by simp) (by simp [go_sem]) ?_
   refine (idleOn (w.heap.size + 1) _ _ _ (T2.out.cell2 _ _)).mono ?_
   rintro e u' w3 ⟨rfl, rfl, hC⟩
   have hbt := ((But.set W3 0 (.int .i64 0)).trans (But.set _ 1 (.int .i64 0))).trans hC.2
   refine leaves_end (resCC rfl rfl rfl (B3.out.but hbt (by omega)) hC.1) ⟨HB3.out.trans (hbt.below (Nat.le_succ _) HB3.out.size), p, ?_, HP3.out.keep (fun b hb => ⟨by omega, by have := hbt.size; omega⟩) (fun b hb => hbt.block b hb.2 (by omega))⟩
   rw [← ev.out]
def RetP5 (w : World) (l : List Sy.Pg) (e : Ending) (w' : World) : Prop := ∃ x, e = .returned x ∧ Sy.PgV w' l x ∧ Below w.heap.size w w'
def initM5 : List Sy.Pg := [(⟨#[108, 105, 115, 112]⟩, [])]
theorem iniP5 (w : World) : Sy.PgV (w.alloc (.cells #[.string ⟨#[108, 105, 115, 112]⟩, .slice none 0 0] 76)) initM5 (.slice (some ⟨w.heap.size, 0, none⟩) 1 1) :=
 Sy.PgV.of_row (row := [.string ⟨#[108, 105, 115, 112]⟩, .slice none 0 0]) (l := initM5) (heap_alloc_new w _) (Nat.le_refl _) (by unfold maxLen; omega) (fun i hi => by
  have e : i = 0 := by simp [initM5] at hi; omega
  subst e
  exact ⟨rfl, _, rfl, Sy.SyV.nil _⟩)
set_option maxHeartbeats 4000000 in
set_option maxRecDepth 100000 in
theorem initialR5 (w : World) : Calls Tryz.prog 23 #[] w (RetP5 w initM5) := by
 go_enter Tryz.func23, Tryz.ntmps23
 go_wp2_with fail
 go_ret
 exact ⟨_, rfl, iniP5 w, Below.alloc (Below.refl _ _) (Nat.le_refl _) _⟩
theorem firstRead : oneS initM5 ⟨#[108, 105, 115, 112]⟩ ⟨#[40, 97, 32, 46, 32, 40, 98, 32, 50, 47, 52, 41, 41, 32, 59, 32, 99, 111, 109, 109, 101, 110, 116]⟩ = .ok (Ob.list [.sym lispB [97], .sym lispB [98], .num (quo [49] [50])]) := by kernel_rfl
theorem symF (n : ByteArray) (w : World) : Calls Tryz.prog 25 #[.agg #[.string (BA lispB), .string n]] w (Sy.RetY w (.agg #[.int .i64 2, .string ⟨#[]⟩, .string ⟨#[]⟩, .string (BA lispB), .string n, .string ⟨#[]⟩, .slice none 0 0])) := by
 refine (symO _ n w (fun _ => False)).mono ?_
 rintro e w' ⟨p, rfl, hp, hb⟩
 obtain rfl := hp.flat rfl
 refine ⟨?_, hb⟩
 show Ending.returned (.agg #[.int .i64 2, .string ⟨#[]⟩, .string ⟨#[]⟩, .string (BA (LA (BA lispB))), .string (BA (LA n)), .string ⟨#[]⟩, .slice none 0 0]) = _
 rw [BA_LA, BA_LA]
theorem halfF (w : World) : Calls Tryz.prog 27 #[.string ⟨#[49]⟩, .string ⟨#[50]⟩] w (Sy.RetY w (.agg #[.int .i64 1, .string (nt (quo [49] [50])), .string (dt (quo [49] [50])), .string ⟨#[]⟩, .string ⟨#[]⟩, .string ⟨#[]⟩, .slice none 0 0])) := by
 refine (ratO ⟨#[49]⟩ ⟨#[50]⟩ w (fun _ => False) (fun _ h => h.elim) (by decide) (by decide)).mono ?_
 rintro e w' ⟨p, rfl, hp, hb⟩
 obtain rfl := hp.flat rfl
 exact ⟨rfl, hb⟩
theorem list3F (w : World) (b : Nat) (hr : w.heap[b]? = some (.cells #[.int .i64 2, .string ⟨#[]⟩, .string ⟨#[]⟩, .string (BA lispB), .string ⟨#[97]⟩, .string ⟨#[]⟩, .slice none 0 0, .int .i64 2, .string ⟨#[]⟩, .string ⟨#[]⟩, .string (BA lispB), .string ⟨#[98]⟩, .string ⟨#[]⟩, .slice none 0 0, .int .i64 1, .string (nt (quo [49] [50])), .string (dt (quo [49] [50])), .string ⟨#[]⟩, .string ⟨#[]⟩, .string ⟨#[]⟩, .slice none 0 0] 47 (0, 0))) (hb : b < w.heap.size) : Calls Tryz.prog 24 #[.slice (some ⟨b, 0, none⟩) 3 3] w (fun e w' => ∃ b' o' c', e = .returned (.agg #[.int .i64 4, .string ⟨#[]⟩, .string ⟨#[]⟩, .string ⟨#[]⟩, .string ⟨#[]⟩, .string ⟨#[]⟩, .slice (some ⟨b', o', none⟩) 2 c']) ∧ Pair w' (fun b => b < w'.heap.size) (Ob.list [.sym lispB [97], .sym lispB [98], .num (quo [49] [50])]) (.slice (some ⟨b', o', none⟩) 2 c') ∧ Below w.heap.size w w') := by
 have h := listO [.sym lispB [97], .sym lispB [98], .num (quo [49] [50])] (some ⟨b, 0, none⟩) 3 w (fun b => b < w.heap.size) (fun b hb => hb) (Nat.le_refl _) (by simp) (fun _ => ⟨b, 0, rfl, hb, by
  refine ⟨⟨.slice none 0 0, rfl, fun j u hj => ?_⟩, ⟨.slice none 0 0, rfl, fun j u hj => ?_⟩, ⟨.slice none 0 0, rfl, fun j u hj => ?_⟩, trivial⟩
  · rw [cell_of_row _ _ _ _ _ _ hr]
    match j, hj with
    | 0, hj => exact hj
    | 1, hj => exact hj
    | 2, hj => exact hj
    | 3, hj => exact hj
    | 4, hj => exact hj
    | 5, hj => exact hj
    | 6, hj => exact hj
    | k + 7, hj => cases hj
  · rw [cell_of_row _ _ _ _ _ _ hr]
    match j, hj with
    | 0, hj => exact hj
    | 1, hj => exact hj
    | 2, hj => exact hj
    | 3, hj => exact hj
    | 4, hj => exact hj
    | 5, hj => exact hj
    | 6, hj => exact hj
    | k + 7, hj => cases hj
  · rw [cell_of_row _ _ _ _ _ _ hr]
    match j, hj with
    | 0, hj => exact hj
    | 1, hj => exact hj
    | 2, hj => exact hj
    | 3, hj => exact hj
    | 4, hj => exact hj
    | 5, hj => exact hj
    | 6, hj => exact hj
    | k + 7, hj => cases hj⟩)
 refine h.mono ?_
 rintro e w' ⟨pp, rfl, h1, h2⟩
 obtain ⟨b', o', c', pa, pd, rfl, _⟩ := h1.parts
 exact ⟨b', o', c', rfl, h1.more fun b hb => hb.elim (fun h => Nat.lt_of_lt_of_le h h2.size) (fun h => h.2), h2⟩
set_option maxHeartbeats 8000000 in
set_option maxRecDepth 100000 in
theorem firstP5 (w : World) : Calls Tryz.prog 10 #[] w (Sy.RetY w (.bool true)) := by
 obtain ⟨o, ho⟩ : ∃ o, Ob.list [.sym lispB [97], .sym lispB [98], .num (quo [49] [50])] = o := ⟨_, rfl⟩
 have KO : Hid (∀ w x, Sy.PgV w initM5 x → Calls Tryz.prog 19 #[x, .string ⟨#[108, 105, 115, 112]⟩, .string ⟨#[40, 97, 32, 46, 32, 40, 98, 32, 50, 47, 52, 41, 41, 32, 59, 32, 99, 111, 109, 109, 101, 110, 116]⟩] w (OutOn w (.ok o))) := fun w x h => by
  have := onePr ⟨#[40, 97, 32, 46, 32, 40, 98, 32, 50, 47, 52, 41, 41, 32, 59, 32, 99, 111, 109, 109, 101, 110, 116]⟩ ⟨#[108, 105, 115, 112]⟩ initM5 x w h ⟨by simp [initM5], by simp [initM5]⟩ (SmS.of (by decide))
  rw [firstRead, ho] at this
  exact this
 have HOo := Lib.hid ho
 clear ho
 go_enter Tryz.func10, Tryz.ntmps10
 go_wp2_with fail
 refine (initialR5 _).mono ?_
 rintro e w1 ⟨x, rfl, hx, hb1⟩
 have HX := Lib.hid hx
 have HB1 := Lib.hid hb1
 clear hx hb1
 go_wp2_with fail
 refine (KO.out _ _ HX.out).mono ?_
 rintro e w2 ⟨hb2, p, rfl, hp⟩
 obtain ⟨x0, x1, x2, x3, x4, x5, hz⟩ := cells7 o p
 have B0 : ObB ((w2.alloc (.cells #[.int .i64 0, .string ⟨#[]⟩, .string ⟨#[]⟩, .string ⟨#[]⟩, .string ⟨#[]⟩, .string ⟨#[]⟩, .slice none 0 0] 47)).alloc (.cells #[.int .i64 0, .int .i64 0] 26)) w2.heap.size #[.int .i64 0, .string ⟨#[]⟩, .string ⟨#[]⟩, .string ⟨#[]⟩, .string ⟨#[]⟩, .string ⟨#[]⟩, .slice none 0 0] := heap_old1 w2 _ _
 have T0 : EB ((w2.alloc (.cells #[.int .i64 0, .string ⟨#[]⟩, .string ⟨#[]⟩, .string ⟨#[]⟩, .string ⟨#[]⟩, .string ⟨#[]⟩, .slice none 0 0] 47)).alloc (.cells #[.int .i64 0, .int .i64 0] 26)) (w2.heap.size + 1) (.int .i64 0) (.int .i64 0) := heap_alloc2_new w2 _ _
 have HBA : Below w2.heap.size w2 ((w2.alloc (.cells #[.int .i64 0, .string ⟨#[]⟩, .string ⟨#[]⟩, .string ⟨#[]⟩, .string ⟨#[]⟩, .string ⟨#[]⟩, .slice none 0 0] 47)).alloc (.cells #[.int .i64 0, .int .i64 0] 26)) := al2 w2 _ _
 have HB3 := Lib.hid (chain5 (chain5 HB1.out hb2) (below_setRowO HBA (Nat.le_refl _) (cellsO o p).toArray))
 have T1 := Lib.hid (T0.row (b := w2.heap.size) (by omega) (cellsO o p).toArray)
 have B1 := Lib.hid (show ObB (((w2.alloc (.cells #[.int .i64 0, .string ⟨#[]⟩, .string ⟨#[]⟩, .string ⟨#[]⟩, .string ⟨#[]⟩, .string ⟨#[]⟩, .slice none 0 0] 47)).alloc (.cells #[.int .i64 0, .int .i64 0] 26)).setRow w2.heap.size (cellsO o p).toArray) w2.heap.size #[x0, x1, x2, x3, x4, x5, p] from (setRow_heap _ _ _ _ _ _ B0).trans (by rw [hz]))
 have HP1 := Lib.hid (show Pair (((w2.alloc (.cells #[.int .i64 0, .string ⟨#[]⟩, .string ⟨#[]⟩, .string ⟨#[]⟩, .string ⟨#[]⟩, .string ⟨#[]⟩, .slice none 0 0] 47)).alloc (.cells #[.int .i64 0, .int .i64 0] 26)).setRow w2.heap.size (cellsO o p).toArray) (fun b => b < w2.heap.size) o p from hp.keep (fun b hb => hb.2) (fun b hb => (setRow_other _ _ _ _ (by omega)).trans (HBA.block b hb.2)))
 have hB0 := Lib.hid B0
 have ev := Lib.hid (show Value.agg #[x0, x1, x2, x3, x4, x5, p] = vO o p from by unfold vO; rw [hz])
 have c0 := T1.out.c0
 have c1 := T1.out.c1
 have f0 : (((w2.alloc (.cells #[.int .i64 0, .string ⟨#[]⟩, .string ⟨#[]⟩, .string ⟨#[]⟩, .string ⟨#[]⟩, .string ⟨#[]⟩, .slice none 0 0] 47)).alloc (.cells #[.int .i64 0, .int .i64 0] 26)).setRow w2.heap.size (cellsO o p).toArray).frozen? ⟨w2.heap.size + 1, 0, none⟩ = false := T1.out.fr
 have f1 : (((w2.alloc (.cells #[.int .i64 0, .string ⟨#[]⟩, .string ⟨#[]⟩, .string ⟨#[]⟩, .string ⟨#[]⟩, .string ⟨#[]⟩, .slice none 0 0] 47)).alloc (.cells #[.int .i64 0, .int .i64 0] 26)).setRow w2.heap.size (cellsO o p).toArray).frozen? ⟨w2.heap.size + 1, 1, none⟩ = false := T1.out.fr
 have hwg : w.heap.size ≤ w2.heap.size := Nat.le_trans HB1.out.size hb2.size
 clear hb2 T0 HBA B0 hz
 go_upto_region 3 with (refine storeV rfl (.tmp 2) (.tmp 9) rfl w2.heap.size o p rfl rfl hp 47 _ hB0.out rfl ?_)
 clear c0 c1 f0 f1 hp hB0
 have hlt : w2.heap.size < (((w2.alloc (.cells #[.int .i64 0, .string ⟨#[]⟩, .string ⟨#[]⟩, .string ⟨#[]⟩, .string ⟨#[]⟩, .string ⟨#[]⟩, .slice none 0 0] 47)).alloc (.cells #[.int .i64 0, .int .i64 0] 26)).setRow w2.heap.size (cellsO o p).toArray).heap.size := Sy.blk_ltY B1.out
 generalize (((w2.alloc (.cells #[.int .i64 0, .string ⟨#[]⟩, .string ⟨#[]⟩, .string ⟨#[]⟩, .string ⟨#[]⟩, .string ⟨#[]⟩, .slice none 0 0] 47)).alloc (.cells #[.int .i64 0, .int .i64 0] 26)).setRow w2.heap.size (cellsO o p).toArray) = W3 at B1 T1 HB3 HP1 hlt ⊢
 generalize w2.heap.size = g at B1 T1 HP1 hlt hwg ⊢
 have hbt : But (g + 1) W3 ((W3.setCell ⟨g + 1, 0, none⟩ (.int .i64 0)).setCell ⟨g + 1, 1, none⟩ (.int .i64 0)) := (But.set W3 0 (.int .i64 0)).trans (But.set _ 1 (.int .i64 0))
 have T2 := Lib.hid (T1.out.cell2 (.int .i64 0) (.int .i64 0))
 have B2 := Lib.hid (B1.out.but hbt (by omega))
 have HP2 := Lib.hid (HP1.out.keep (fun b hb => hb) (fun b hb => hbt.block b (by omega) (by omega)))
 have HBt := Lib.hid hbt
 have HB4 : Hid (Below w.heap.size w ((W3.setCell ⟨g + 1, 0, none⟩ (.int .i64 0)).setCell ⟨g + 1, 1, none⟩ (.int .i64 0))) := HB3.out.trans (HBt.out.below (by omega) HB3.out.size)
 clear hbt T1 B1 HP1 HB3 HBt
 generalize (W3.setCell ⟨g + 1, 0, none⟩ (.int .i64 0)).setCell ⟨g + 1, 1, none⟩ (.int .i64 0) = W4 at T2 B2 HP2 HB4 ⊢
 go_wp2_with fail
 refine (lispO _ _).mono ?_
 rintro e w5 ⟨rfl, h5⟩
 go_wp2_with fail
 refine (symF _ _).mono ?_
 rintro e w6 ⟨rfl, h6⟩
 go_wp2_with fail
 refine (lispO _ _).mono ?_
 rintro e w7 ⟨rfl, h7⟩
 go_wp2_with fail
 refine (symF _ _).mono ?_
 rintro e w8 ⟨rfl, h8⟩
 go_wp2_with fail
 refine (halfF _).mono ?_
 rintro e w9 ⟨rfl, h9⟩
 have hb9 : Below W4.heap.size W4 w9 := chain5 (chain5 (chain5 (chain5 h5 h6) h7) h8) h9
 have hb10 : Below W4.heap.size W4 (w9.alloc (.cells #[.int .i64 2, .string ⟨#[]⟩, .string ⟨#[]⟩, .string (BA lispB), .string ⟨#[97]⟩, .string ⟨#[]⟩, .slice none 0 0, .int .i64 2, .string ⟨#[]⟩, .string ⟨#[]⟩, .string (BA lispB), .string ⟨#[98]⟩, .string ⟨#[]⟩, .slice none 0 0, .int .i64 1, .string (nt (quo [49] [50])), .string (dt (quo [49] [50])), .string ⟨#[]⟩, .string ⟨#[]⟩, .string ⟨#[]⟩, .slice none 0 0] 47)) := chain5 hb9 (Below.alloc (Below.refl _ _) (Nat.le_refl _) _)
 have hr : Hid ((w9.alloc (.cells #[.int .i64 2, .string ⟨#[]⟩, .string ⟨#[]⟩, .string (BA lispB), .string ⟨#[97]⟩, .string ⟨#[]⟩, .slice none 0 0, .int .i64 2, .string ⟨#[]⟩, .string ⟨#[]⟩, .string (BA lispB), .string ⟨#[98]⟩, .string ⟨#[]⟩, .slice none 0 0, .int .i64 1, .string (nt (quo [49] [50])), .string (dt (quo [49] [50])), .string ⟨#[]⟩, .string ⟨#[]⟩, .string ⟨#[]⟩, .slice none 0 0] 47)).heap[w9.heap.size]? = some (.cells #[.int .i64 2, .string ⟨#[]⟩, .string ⟨#[]⟩, .string (BA lispB), .string ⟨#[97]⟩, .string ⟨#[]⟩, .slice none 0 0, .int .i64 2, .string ⟨#[]⟩, .string ⟨#[]⟩, .string (BA lispB), .string ⟨#[98]⟩, .string ⟨#[]⟩, .slice none 0 0, .int .i64 1, .string (nt (quo [49] [50])), .string (dt (quo [49] [50])), .string ⟨#[]⟩, .string ⟨#[]⟩, .string ⟨#[]⟩, .slice none 0 0] 47 (0, 0))) := heap_alloc_new _ _
 have HB10 := Lib.hid hb10
 clear h5 h6 h7 h8 h9 hb9 hb10
 go_wp2_with fail
 refine (list3F _ _ hr.out (Sy.blk_ltY hr.out)).mono ?_
 rintro e w11 ⟨b', o', c', rfl, hpl, hb11⟩
 have HPL := Lib.hid hpl
 have HBx : Hid (Below W4.heap.size W4 w11) := chain5 HB10.out hb11
 clear hpl hb11 hr HB10
 have hal := Lib.hid (show Below w11.heap.size w11 (w11.alloc (.cells #[.int .i64 4, .string ⟨#[]⟩, .string ⟨#[]⟩, .string ⟨#[]⟩, .string ⟨#[]⟩, .string ⟨#[]⟩, .slice (some ⟨b', o', none⟩) 2 c'] 47)) from Below.alloc (Below.refl _ _) (Nat.le_refl _) _)
 have HBy : Hid (Below W4.heap.size W4 (w11.alloc (.cells #[.int .i64 4, .string ⟨#[]⟩, .string ⟨#[]⟩, .string ⟨#[]⟩, .string ⟨#[]⟩, .string ⟨#[]⟩, .slice (some ⟨b', o', none⟩) 2 c'] 47))) := chain5 HBx.out hal.out
 have BL : Hid (ObB (w11.alloc (.cells #[.int .i64 4, .string ⟨#[]⟩, .string ⟨#[]⟩, .string ⟨#[]⟩, .string ⟨#[]⟩, .string ⟨#[]⟩, .slice (some ⟨b', o', none⟩) 2 c'] 47)) w11.heap.size #[.int .i64 4, .string ⟨#[]⟩, .string ⟨#[]⟩, .string ⟨#[]⟩, .string ⟨#[]⟩, .string ⟨#[]⟩, .slice (some ⟨b', o', none⟩) 2 c']) := heap_alloc_new _ _
 have HPy := Lib.hid (HPL.out.keep (S' := fun b => b < (w11.alloc (.cells #[.int .i64 4, .string ⟨#[]⟩, .string ⟨#[]⟩, .string ⟨#[]⟩, .string ⟨#[]⟩, .string ⟨#[]⟩, .slice (some ⟨b', o', none⟩) 2 c'] 47)).heap.size) (fun b hb => Nat.lt_of_lt_of_le hb hal.out.size) (fun b hb => hal.out.block b hb))
 clear hal HBx HPL
 go_upto_region 4 with fail
 generalize w11.alloc (.cells #[.int .i64 4, .string ⟨#[]⟩, .string ⟨#[]⟩, .string ⟨#[]⟩, .string ⟨#[]⟩, .string ⟨#[]⟩, .slice (some ⟨b', o', none⟩) 2 c'] 47) = W12 at HBy BL HPy ⊢
 generalize w11.heap.size = g4 at BL ⊢
 have B12 := Lib.hid (B2.out.keep HBy.out)
 have T12 := Lib.hid (T2.out.keep HBy.out)
 have HP12 := Lib.hid (HP2.out.keep (S' := fun b => b < W12.heap.size) (fun b hb => by have := (Sy.blk_ltY B2.out); have := HBy.out.size; omega) (fun b hb => HBy.out.block b (by have := (Sy.blk_ltY B2.out); omega)))
 have e2 : Value.agg #[.int .i64 4, .string ⟨#[]⟩, .string ⟨#[]⟩, .string ⟨#[]⟩, .string ⟨#[]⟩, .string ⟨#[]⟩, .slice (some ⟨b', o', none⟩) 2 c'] = vO o (.slice (some ⟨b', o', none⟩) 2 c') := by rw [← HOo.out]; rfl
 rw [HOo.out] at HPy
 have KE : Hid (Calls Tryz.prog 21 #[.agg #[x0, x1, x2, x3, x4, x5, p], .agg #[.int .i64 4, .string ⟨#[]⟩, .string ⟨#[]⟩, .string ⟨#[]⟩, .string ⟨#[]⟩, .string ⟨#[]⟩, .slice (some ⟨b', o', none⟩) 2 c']] W12 (EqPost W12 true)) := by
  rw [ev.out, e2]
  have := equalO o o p (.slice (some ⟨b', o', none⟩) 2 c') W12 (fun b => b < W12.heap.size) (fun b h => h) HP12.out HPy.out
  rw [decide_eq_true rfl] at this
  exact this
 have HB12 := Lib.hid (chain5 HB4.out HBy.out)
 obtain ⟨m0, m1, m2, m3, m4, m5, m6⟩ := B12.out.c
 obtain ⟨l0, l1, l2, l3, l4, l5, l6⟩ := BL.out.c
 have c0 := T12.out.c0
 have c1 := T12.out.c1
 clear e2
 go_wp2_with fail
 refine KE.out.mono ?_
 rintro e w13 ⟨rfl, hb⟩
 have HB13 := Lib.hid (chain5 HB12.out hb)
 clear hb m0 m1 m2 m3 m4 m5 m6 l0 l1 l2 l3 l4 l5 l6 c0 c1
 go_wp2
 go_ret
 exact ⟨rfl, HB13.out⟩
theorem flatT_at : ∀ (ts : List Tk) (i : Nat) (hi : i < ts.length) (k : Nat), k < 5 → (flatT ts)[i * 5 + k]? = (tkC ts[i]).toList[k]?
 | t :: ts, 0, hi, k, hk => by
  rw [flatT_cons, Nat.zero_mul, Nat.zero_add, List.getElem?_append_left (by show k < 5; exact hk)]; rfl
 | t :: ts, i + 1, hi, k, hk => by
  rw [flatT_cons, List.getElem?_append_right (by show 5 ≤ _; omega)]
  have := flatT_at ts i (by simpa using hi) k hk
  rw [show (i + 1) * 5 + k - (tkC t).toList.length = i * 5 + k from by show _ - 5 = _; omega, this]; rfl
theorem TkV.at {w : World} {B : Nat} {ts : List Tk} {v : Value} (h : TkV w B ts v) (i : Nat) (hi : i < ts.length) : ∃ b o c, v = .slice (some ⟨b, o, none⟩) ts.length c ∧ b < w.heap.size ∧
 w.cell? ⟨b, o + i * 5, none⟩ = some (.int .i64 ts[i].k) ∧ w.cell? ⟨b, o + i * 5 + 1, none⟩ = some (.int .i64 ts[i].p) ∧ w.cell? ⟨b, o + i * 5 + 2, none⟩ = some (.string (BA ts[i].pkg)) ∧ w.cell? ⟨b, o + i * 5 + 3, none⟩ = some (.string (BA ts[i].txt)) ∧ w.cell? ⟨b, o + i * 5 + 4, none⟩ = some (.string (BA ts[i].den)) := by
 obtain ⟨A, c, rfl, h2, h3, h4⟩ := h
 obtain ⟨b, o, rfl, h6, h7⟩ := h4 (by omega)
 have e : ∀ k, k < 5 → ∀ u, (tkC ts[i]).toList[k]? = some u → w.cell? ⟨b, o + i * 5 + k, none⟩ = some u := fun k hk u hj => by
  have := h7 (i * 5 + k) u (by rw [flatT_at ts i hi k hk]; exact hj)
  rwa [← Nat.add_assoc] at this
 exact ⟨b, o, c, rfl, h6.2, e 0 (by decide) _ rfl, e 1 (by decide) _ rfl, e 2 (by decide) _ rfl, e 3 (by decide) _ rfl, e 4 (by decide) _ rfl⟩
set_option maxHeartbeats 8000000
set_option maxRecDepth 100000

theorem badR (x p : Int) (w : World) : Calls Tryz.prog 31 #[.int .i64 x, .int .i64 p] w (Sy.RetY w (.agg #[.int .i64 x, .int .i64 p])) := by
 go_enter Tryz.func31, Tryz.ntmps31
 go_wp2_with fail
 exact retE rfl rfl (EB.new _ _ _) ⟨rfl, Below.alloc (Below.refl _ _) (Nat.le_refl _) _⟩
theorem blankR0 (x : Int) (b : Bool) (h : (x == 32 || x == 9 || x == 10 || x == 13) = b) (w : World) : Calls Tryz.prog 47 #[.int .u8 x] w fun e w' => e = .returned (.bool b) ∧ w = w' := by
 cases e32 : (x == 32) with
 | true =>
  rw [e32] at h
  simp at h
  subst h
  go_enter Tryz.func47, Tryz.ntmps47
  go_wp2
  go_ret
  exact ⟨rfl, rfl⟩
 | false =>
  rw [e32] at h
  cases e9 : (x == 9) with
  | true =>
   rw [e9] at h
   simp at h
   subst h
   go_enter Tryz.func47, Tryz.ntmps47
   go_wp2
   go_ret
   exact ⟨rfl, rfl⟩
  | false =>
   rw [e9] at h
   cases e10 : (x == 10) with
   | true =>
    rw [e10] at h
    simp at h
    subst h
    go_enter Tryz.func47, Tryz.ntmps47
    go_wp2
    go_ret
    exact ⟨rfl, rfl⟩
   | false =>
    rw [e10] at h
    cases e13 : (x == 13) with
    | true =>
     rw [e13] at h
     simp at h
     subst h
     go_enter Tryz.func47, Tryz.ntmps47
     go_wp2
     go_ret
     exact ⟨rfl, rfl⟩
    | false =>
     rw [e13] at h
     simp at h
     subst h
     go_enter Tryz.func47, Tryz.ntmps47
     go_wp2
     go_ret
     exact ⟨rfl, rfl⟩
theorem blankR (c : UInt8) (w : World) : Calls Tryz.prog 47 #[.int .u8 (c.toNat : Int)] w fun e w' => e = .returned (.bool (blankB c)) ∧ w = w' := blankR0 _ _ (blank_eq c) w
theorem con_eq (c : UInt8) : conB c = (decide (33 ≤ (c.toNat : Int)) && (decide ((c.toNat : Int) ≤ 126) && ((c.toNat : Int) != 40 && ((c.toNat : Int) != 41 && ((c.toNat : Int) != 39 && ((c.toNat : Int) != 34 && ((c.toNat : Int) != 59 && ((c.toNat : Int) != 124 && ((c.toNat : Int) != 58))))))))) := by
 have h : ((List.range 256).all fun n => conB (UInt8.ofNat n) == (decide (33 ≤ ((UInt8.ofNat n).toNat : Int)) && (decide (((UInt8.ofNat n).toNat : Int) ≤ 126) && (((UInt8.ofNat n).toNat : Int) != 40 && (((UInt8.ofNat n).toNat : Int) != 41 && (((UInt8.ofNat n).toNat : Int) != 39 && (((UInt8.ofNat n).toNat : Int) != 34 && (((UInt8.ofNat n).toNat : Int) != 59 && (((UInt8.ofNat n).toNat : Int) != 124 && (((UInt8.ofNat n).toNat : Int) != 58)))))))))) = true := by kernel_rfl
 have := List.all_eq_true.1 h c.toNat (List.mem_range.2 c.toNat_lt)
 rw [UInt8.ofNat_toNat] at this
 exact eq_of_beq this
theorem conR0 (x : Int) (b : Bool) (h : (decide (33 ≤ x) && (decide (x ≤ 126) && (x != 40 && (x != 41 && (x != 39 && (x != 34 && (x != 59 && (x != 124 && (x != 58))))))))) = b) (w : World) : Calls Tryz.prog 51 #[.int .u8 x] w fun e w' => e = .returned (.bool b) ∧ w = w' := by
 cases a1 : decide (33 ≤ x) with
 | false =>
  rw [a1] at h
  simp at h
  subst h
  have a1' : ¬ (33 ≤ x) := by simpa using a1
  go_enter Tryz.func51, Tryz.ntmps51
  go_wp2
  go_ret
  exact ⟨rfl, rfl⟩
 | true =>
  rw [a1] at h
  have a1' : 33 ≤ x := by simpa using a1
  cases a2 : decide (x ≤ 126) with
  | false =>
   rw [a2] at h
   simp at h
   subst h
   have a2' : ¬ (x ≤ 126) := by simpa using a2
   go_enter Tryz.func51, Tryz.ntmps51
   go_wp2
   go_ret
   exact ⟨rfl, rfl⟩
  | true =>
   rw [a2] at h
   have a2' : x ≤ 126 := by simpa using a2
   cases e40 : (x != 40) with
   | false =>
    rw [e40] at h
    simp at h
    subst h
    go_enter Tryz.func51, Tryz.ntmps51
    go_wp2
    go_ret
    exact ⟨rfl, rfl⟩
   | true =>
    rw [e40] at h
    cases e41 : (x != 41) with
    | false =>
     rw [e41] at h
     simp at h
     subst h
     go_enter Tryz.func51, Tryz.ntmps51
     go_wp2
     go_ret
     exact ⟨rfl, rfl⟩
    | true =>
     rw [e41] at h
     cases e39 : (x != 39) with
     | false =>
      rw [e39] at h
      simp at h
      subst h
      go_enter Tryz.func51, Tryz.ntmps51
      go_wp2
      go_ret
      exact ⟨rfl, rfl⟩
     | true =>
      rw [e39] at h
      cases e34 : (x != 34) with
      | false =>
       rw [e34] at h
       simp at h
       subst h
       go_enter Tryz.func51, Tryz.ntmps51
       go_wp2
       go_ret
       exact ⟨rfl, rfl⟩
      | true =>
       rw [e34] at h
       cases e59 : (x != 59) with
       | false =>
        rw [e59] at h
        simp at h
        subst h
        go_enter Tryz.func51, Tryz.ntmps51
        go_wp2
        go_ret
        exact ⟨rfl, rfl⟩
       | true =>
        rw [e59] at h
        cases e124 : (x != 124) with
        | false =>
         rw [e124] at h
         simp at h
         subst h
         go_enter Tryz.func51, Tryz.ntmps51
         go_wp2
         go_ret
         exact ⟨rfl, rfl⟩
        | true =>
         rw [e124] at h
         cases e58 : (x != 58) with
         | false =>
          rw [e58] at h
          simp at h
          subst h
          go_enter Tryz.func51, Tryz.ntmps51
          go_wp2
          go_ret
          exact ⟨rfl, rfl⟩
         | true =>
          rw [e58] at h
          simp at h
          subst h
          go_enter Tryz.func51, Tryz.ntmps51
          go_wp2
          go_ret
          exact ⟨rfl, rfl⟩
theorem conR (c : UInt8) (w : World) : Calls Tryz.prog 51 #[.int .u8 (c.toNat : Int)] w fun e w' => e = .returned (.bool (conB c)) ∧ w = w' := conR0 _ _ (con_eq c).symm w
theorem hasR (s : ByteArray) (i : Nat) (a b : UInt8) (r : Bool) (hi : i ≤ s.size) (hs : s.size ≤ 6000) (hr : Lib.hasPrefix ((LA s).drop i) [a, b] = r) (w : World) : Calls Tryz.prog 48 #[.string s, .int .i64 (i : Int), .int .u8 (a.toNat : Int), .int .u8 (b.toNat : Int)] w fun e w' => e = .returned (.bool r) ∧ w = w' := by
 have b0 : (0 : Int) ≤ (i : Int) := by omega
 have b1 : (i : Int) ≤ 6000 := by omega
 by_cases h : i + 1 < s.size
 · have hl := la_drop (show i < s.size by omega)
   have hl2 := la_drop h
   rw [hl, hl2, pre2] at hr
   have d1 : (i : Int) + 1 < (s.size : Int) := by omega
   have d2 : (0 : Int) ≤ (i : Int) ∧ (i : Int) < (s.size : Int) := by omega
   have d3 : (0 : Int) ≤ (i : Int) + 1 ∧ (i : Int) + 1 < (s.size : Int) := by omega
   have e1 : ((s[i].toNat : Int) == (a.toNat : Int)) = (s[i] == a) := byte_eq
   have e2 : ((s[i + 1].toNat : Int) == (b.toNat : Int)) = (s[i + 1] == b) := byte_eq
   rw [Bool.beq_comm (a := a), Bool.beq_comm (a := b)] at hr
   clear hl hl2
   cases ha : (s[i] == a) with
   | true =>
    rw [ha] at e1 hr
    cases hb : (s[i + 1] == b) with
    | true =>
     rw [hb] at e2 hr
     clear ha hb hi
     subst hr
     go_enter Tryz.func48, Tryz.ntmps48
     go_wp2
     go_ret
     exact ⟨rfl, rfl⟩
    | false =>
     rw [hb] at e2 hr
     clear ha hb hi
     subst hr
     go_enter Tryz.func48, Tryz.ntmps48
     go_wp2
     go_ret
     exact ⟨rfl, rfl⟩
   | false =>
    rw [ha] at e1 hr
    clear ha e2 hi
    rw [Bool.false_and] at hr
    subst hr
    go_enter Tryz.func48, Tryz.ntmps48
    go_wp2
    go_ret
    exact ⟨rfl, rfl⟩
 · have hr2 : false = r := by
    rw [← hr]
    rcases la_cases s hi with ⟨_, hl⟩ | ⟨hlt, hl⟩
    · rw [hl]; rfl
    · rw [hl, la_end (show s.size ≤ i + 1 by omega)]
      exact (pre2_one _ _ _).symm
   subst hr2
   have d1 : ¬ (i : Int) + 1 < (s.size : Int) := by omega
   clear hr h
   go_enter Tryz.func48, Tryz.ntmps48
   go_wp2
   go_ret
   exact ⟨rfl, rfl⟩
theorem wordR (s : ByteArray) (i : Nat) (hi : i ≤ s.size) (hs : s.size ≤ 6000) (w : World) : Calls Tryz.prog 52 #[.string s, .int .i64 (i : Int)] w fun e w' => (∃ j : Nat, i ≤ j ∧ j ≤ s.size ∧ e = .returned (.int .i64 (j : Int)) ∧ (LA s).drop j = restL ((LA s).drop i) ∧ s.extract i j = BA (wordL ((LA s).drop i))) ∧ w = w' := by
 obtain ⟨W, hW⟩ : ∃ W, wordL ((LA s).drop i) = W := ⟨_, rfl⟩
 obtain ⟨R, hR⟩ : ∃ R, restL ((LA s).drop i) = R := ⟨_, rfl⟩
 rw [hW, hR]
 obtain ⟨PP, hPP⟩ : ∃ PP : Ending → World → Prop, (fun e w' => (∃ j : Nat, i ≤ j ∧ j ≤ s.size ∧ e = .returned (.int .i64 (j : Int)) ∧ (LA s).drop j = R ∧ s.extract i j = BA W) ∧ w = w') = PP := ⟨_, rfl⟩
 have HF : Hid (∀ j, i ≤ j → j ≤ s.size → (LA s).drop j = R → s.extract i j = BA W → PP (.returned (.int .i64 (j : Int))) w) := fun j h1 h2 h3 h4 => by rw [← hPP]; exact ⟨⟨j, h1, h2, rfl, h3, h4⟩, rfl⟩
 rw [hPP]
 have H0 : Hid ((s.extract i i).data.toList ++ wordL ((LA s).drop i) = W ∧ restL ((LA s).drop i) = R) := ⟨by rw [ext_nil]; exact hW, hR⟩
 clear hW hR hPP
 go_enter Tryz.func52, Tryz.ntmps52
 go_wp2_with fail
 go_loop [1] (fun v => ∃ (j : Nat), i ≤ j ∧ j ≤ s.size ∧ v = .int .i64 (j : Int) ∧ Hid ((s.extract i j).data.toList ++ wordL ((LA s).drop j) = W ∧ restL ((LA s).drop j) = R)) (fun v => s.size - (intOf v).toNat)
 case atStart => exact ⟨i, Nat.le_refl _, hi, rfl, H0⟩
 case round =>
  clear H0
  obtain ⟨j, hij, hj, rfl, hE⟩ := hrel
  obtain ⟨hW, hR⟩ := hE.out
  clear hE
  rcases la_cases s hj with ⟨hjs, hl⟩ | ⟨hlt, hl⟩
  · rw [hl, word_nil, List.append_nil] at hW
    rw [hl, rest_nil, ← hl] at hR
    have HX := Lib.hid (HF.out j hij hj hR (ba_of hW))
    have d1 : ¬ (j : Int) < (s.size : Int) := by omega
    clear hW hR hl HF hjs
    go_wp2
    first | exact HX.out | exact bodyPost_ret (results_tmp rfl _ _ _) rfl HX.out
  · have d1 : (j : Int) < (s.size : Int) := by omega
    have d2 : (0 : Int) ≤ (j : Int) ∧ (j : Int) < (s.size : Int) := by omega
    cases hc : conB s[j] with
    | true =>
     have HW : Hid ((s.extract i (j + 1)).data.toList ++ wordL ((LA s).drop (j + 1)) = W ∧ restL ((LA s).drop (j + 1)) = R) := by
      refine ⟨?_, ?_⟩
      · rw [ext_snoc s hij hlt, List.append_assoc, ← hW, hl, word_cons hc]
        rfl
      · rw [← hR, hl, rest_cons hc]
     have HC := Lib.hid hc
     clear hW hR hl hc HF
     go_wp2_with fail
     refine (conR s[j] _).mono ?_
     rintro e w0 ⟨rfl, rfl⟩
     rw [HC.out]
     go_wp2
     go_round
     case rel => exact ⟨j + 1, by omega, hlt, by go_num, HW⟩
     case measure => simp [intOf]; omega
    | false =>
     rw [hl, word_not hc, List.append_nil] at hW
     rw [hl, rest_not hc, ← hl] at hR
     have HX := Lib.hid (HF.out j hij hj hR (ba_of hW))
     have HC := Lib.hid hc
     clear hW hR hl hc HF
     go_wp2_with fail
     refine (conR s[j] _).mono ?_
     rintro e w0 ⟨rfl, rfl⟩
     rw [HC.out]
     go_wp2
     first | exact HX.out | exact bodyPost_ret (results_tmp rfl _ _ _) rfl HX.out
namespace Sy
def RetD (w : World) (r : List Pg × Int) (e : Ending) (w' : World) : Prop := ∃ x, e = .returned (.tuple #[x, .int .i64 r.2]) ∧ PgV w' r.1 x ∧ Below w.heap.size w w'
theorem retTT {fn : Func} {r0 r1 : Tmp} {tmps : Array Value} {w : World} {u v : Value} {Q : Ending → World → Prop} (h : fn.results = #[.tmp r0, .tmp r1]) (h0 : tmps.getD r0 undef = u) (h1 : tmps.getD r1 undef = v) (hQ : Q (.returned (.tuple #[u, v])) w) : bodyPost Tryz.prog fn Q Exit.ret ⟨tmps, []⟩ w := by
 subst h0
 subst h1
 exact bodyPost_ret (v := .tuple #[tmps.getD r0 undef, tmps.getD r1 undef]) (by simp [results, h]) rfl hQ
theorem PgV.snoc {W : World} {l : List Pg} {cs : List Value} {n : ByteArray} {q : List Sy} {u : Value} {g c : Nat} (hg : W.heap[g]? = some (.cells (cs ++ [.string n, u]).toArray 76 (0, 0))) (hcl : cs.length = l.length * 2)
 (hcs : ∀ i (hi : i < l.length), cs[i * 2]? = some (.string l[i].1) ∧ ∃ u, cs[i * 2 + 1]? = some u ∧ SyV W l[i].2 u) (hu : SyV W q u) (hc : l.length + 1 ≤ c) (hc' : c ≤ maxLen) :
 PgV W (l ++ [(n, q)]) (.slice (some ⟨g, 0, none⟩) (l.length + 1) c) := by
 have hlen : (l ++ [(n, q)]).length = l.length + 1 := by simp
 have := PgV.of_row (W := W) (g := g) (c := c) (row := cs ++ [.string n, u]) (l := l ++ [(n, q)]) hg (by rw [hlen]; exact hc) hc' (fun i hi => by
  rw [hlen] at hi
  by_cases h : i < l.length
  · obtain ⟨h1, u', h2, h3⟩ := hcs i h
    rw [List.getElem?_append_left (by omega), List.getElem?_append_left (by omega), List.getElem_append_left h]
    exact ⟨h1, u', h2, h3⟩
  · have e : i = l.length := by omega
    subst e
    rw [List.getElem?_append_right (by omega), List.getElem?_append_right (by omega), hcl, Nat.sub_self, show l.length * 2 + 1 - l.length * 2 = 1 from by omega]
    have e2 : (l ++ [(n, q)])[l.length]'(by omega) = (n, q) := by simp
    rw [e2]
    exact ⟨rfl, u, rfl, hu⟩)
 rw [hlen] at this
 exact this
end Sy
def nestR (d : Nat) (l : List UInt8) : Option (List UInt8) := match nestL d l with
 | none => none
 | some r => skipL r
theorem nestR_zero (l : List UInt8) : nestR 0 l = skipL l := by unfold nestR; rw [nest_zero]
theorem nestR_nil {d : Nat} (h : 0 < d) : nestR d [] = none := by unfold nestR; rw [nest_nil d h]
theorem nestR_one {d : Nat} (h : 0 < d) (c : UInt8) : nestR d [c] = none := by unfold nestR; rw [nest_one d h]
theorem nestR_cons {d : Nat} (h : 0 < d) (c e : UInt8) (l : List UInt8) : nestR d (c :: e :: l) = if c = 35 ∧ e = 124 then nestR (d + 1) l else if c = 124 ∧ e = 35 then nestR (d - 1) l else nestR d (e :: l) := by
 unfold nestR
 rw [nest_cons d h]
 by_cases h1 : c = 35 ∧ e = 124
 · rw [if_pos h1, if_pos h1]
 · rw [if_neg h1, if_neg h1]
   by_cases h2 : c = 124 ∧ e = 35
   · rw [if_pos h2, if_pos h2]
   · rw [if_neg h2, if_neg h2]
theorem skipL_two (c e : UInt8) (l : List UInt8) (hb : blankB c = false) (h1 : ¬ c = 59) : skipL (c :: e :: l) = if c = 35 ∧ e = 124 then nestR 1 l else some (c :: e :: l) := by
 rw [skipL_cons, if_neg (by rw [hb]; simp), if_neg h1]
 rfl
theorem skipL_one (c : UInt8) (hb : blankB c = false) (h1 : ¬ c = 59) : skipL [c] = some [c] := by
 rw [skipL_cons, if_neg (by rw [hb]; simp), if_neg h1]
def SkF (s : ByteArray) (R : Option (List UInt8)) (e : Ending) : Prop := match R with
 | some r => ∃ j : Nat, j ≤ s.size ∧ (LA s).drop j = r ∧ e = .returned (.tuple #[.int .i64 (j : Int), .bool true])
 | none => ∃ j : Nat, j ≤ s.size ∧ e = .returned (.tuple #[.int .i64 (j : Int), .bool false])
theorem SkF.some_ {s : ByteArray} {R : Option (List UInt8)} {j : Nat} (hj : j ≤ s.size) (h : some ((LA s).drop j) = R) : SkF s R (.returned (.tuple #[.int .i64 (j : Int), .bool true])) := by
 subst h
 exact ⟨j, hj, rfl, rfl⟩
theorem SkF.none_ {s : ByteArray} {R : Option (List UInt8)} {j : Nat} (hj : j ≤ s.size) (h : none = R) : SkF s R (.returned (.tuple #[.int .i64 (j : Int), .bool false])) := by
 subst h
 exact ⟨j, hj, rfl⟩
def SkP (s : ByteArray) (R : Option (List UInt8)) (w : World) (e : Ending) (w' : World) : Prop := SkF s R e ∧ w = w'
set_option maxHeartbeats 8000000 in
set_option maxRecDepth 100000 in
theorem skipR (s : ByteArray) (i : Nat) (hi : i ≤ s.size) (hs : s.size ≤ 6000) (w : World) : Calls Tryz.prog 32 #[.string s, .int .i64 (i : Int)] w (SkP s (skipL ((LA s).drop i)) w) := by
 obtain ⟨R, hR⟩ : ∃ R, skipL ((LA s).drop i) = R := ⟨_, rfl⟩
 rw [hR]
 have H0 := Lib.hid hR
 clear hR
 go_enter Tryz.func32, Tryz.ntmps32
 go_wp2_with fail
 go_loop [1] (fun v => ∃ (j : Nat), j ≤ s.size ∧ v = .int .i64 (j : Int) ∧ Hid (skipL ((LA s).drop j) = R)) (fun v => s.size + 1 - (intOf v).toNat)
 case atStart => exact ⟨i, hi, rfl, H0⟩
 case round =>
  clear H0
  obtain ⟨j, hj, rfl, hE⟩ := hrel
  have hR := hE.out
  clear hE
  rcases la_cases s hj with ⟨hjs, hl⟩ | ⟨hlt, hl⟩
  · rw [hl, skipL_nil, ← hl] at hR
    have HR := Lib.hid hR
    have d1 : ¬ (j : Int) < (s.size : Int) := by omega
    clear hR hl hjs
    go_wp2
    first | exact bodyPost_ret (results_tmp2 rfl _ _) rfl ⟨SkF.some_ hj HR.out, rfl⟩ | exact Sy.retTT rfl rfl rfl ⟨SkF.some_ hj HR.out, rfl⟩
  · have d1 : (j : Int) < (s.size : Int) := by omega
    have d2 : (0 : Int) ≤ (j : Int) ∧ (j : Int) < (s.size : Int) := by omega
    cases hb : blankB s[j] with
    | true =>
     rw [hl, skipL_cons, if_pos hb] at hR
     have HR := Lib.hid hR
     have HB := Lib.hid hb
     clear hR hl hb
     go_wp2_with fail
     refine (blankR s[j] _).mono ?_
     rintro e w0 ⟨rfl, rfl⟩
     rw [HB.out]
     go_wp2
     go_round
     case rel => exact ⟨j + 1, hlt, by go_num, HR⟩
     case measure => simp [intOf]; omega
    | false =>
     by_cases h1 : s[j] = 59
     · rw [hl, skipL_cons, if_neg (by rw [hb]; simp), if_pos h1] at hR
       have hl2 : lineL ((LA s).drop j) = lineL ((LA s).drop (j + 1)) := by rw [hl, lineL, if_neg (by rw [h1]; decide)]
       rw [← hl2] at hR
       have HR := Lib.hid hR
       have HB := Lib.hid hb
       have H1 := Lib.hid h1
       have e1 : ((s[j].toNat : Int) == 59) = true := int_eq 59 h1
       clear hR hl hb h1 hl2
       go_wp2_with fail
       refine (blankR s[j] _).mono ?_
       rintro e w0 ⟨rfl, rfl⟩
       rw [HB.out]
       go_wp2_with fail
       clear e1
       go_loop [1] (fun v => ∃ (k : Nat), j ≤ k ∧ k ≤ s.size ∧ v = .int .i64 (k : Int) ∧ Hid (skipL (lineL ((LA s).drop k)) = R)) (fun v => s.size + 1 - (intOf v).toNat)
       case atStart => exact ⟨j, Nat.le_refl _, hj, rfl, HR⟩
       case round =>
        clear HR
        obtain ⟨k, hjk, hk, rfl, hE⟩ := hrel
        have hR := hE.out
        clear hE
        rcases la_cases s hk with ⟨hks, hl⟩ | ⟨hklt, hl⟩
        · rw [hl, lineL, ← hl] at hR
          have HR := Lib.hid hR
          have d1 : ¬ (k : Int) < (s.size : Int) := by omega
          have HK := Lib.hid hks
          clear hR hl hks
          go_wp2
          go_round
          case rel => exact ⟨k, hk, by go_num, HR⟩
          case measure => simp [intOf]; have := HK.out; omega
        · have d1 : (k : Int) < (s.size : Int) := by omega
          have d2 : (0 : Int) ≤ (k : Int) ∧ (k : Int) < (s.size : Int) := by omega
          by_cases h10 : s[k] = 10
          · have hne : j ≠ k := by
             rintro rfl
             have := H1.out
             rw [h10] at this
             exact absurd this (by decide)
            rw [hl, lineL, if_pos h10, ← hl] at hR
            have HR := Lib.hid hR
            have HNE := Lib.hid hne
            have e1 : ((s[k].toNat : Int) != 10) = false := by rw [h10]; rfl
            clear hR hl h10 hne
            go_wp2
            go_round
            case rel => exact ⟨k, hk, by go_num, HR⟩
            case measure => simp [intOf]; have := HNE.out; omega
          · rw [hl, lineL, if_neg h10] at hR
            have HR := Lib.hid hR
            have e1 : ((s[k].toNat : Int) != 10) = true := (byte_ne (a := s[k]) (b := 10)).trans (bne_iff_ne.2 h10)
            clear hR hl h10
            go_wp2
            go_round
            case rel => exact ⟨k + 1, by omega, hklt, by go_num, HR⟩
            case measure => simp [intOf]; omega
     · have e1 : ((s[j].toNat : Int) == 59) = false := int_ne 59 h1
       have HB := Lib.hid hb
       by_cases hx : j + 1 < s.size ∧ Lib.hasPrefix ((LA s).drop j) [35, 124] = true
       · obtain ⟨hj1, hx⟩ := hx
         have hl2 := la_drop hj1
         have h2 : s[j] = 35 ∧ s[j + 1] = 124 := by
          rw [hl, hl2, pre2, Bool.and_eq_true] at hx
          exact ⟨(eq_of_beq hx.1).symm, (eq_of_beq hx.2).symm⟩
         rw [hl, hl2, skipL_two _ _ _ hb h1, if_pos h2] at hR
         have HR := Lib.hid hR
         have HX := Lib.hid hx
         clear hR hl hl2 hb h1 hx h2
         go_wp2_with fail
         refine (blankR s[j] _).mono ?_
         rintro e w0 ⟨rfl, rfl⟩
         rw [HB.out]
         go_wp2_with fail
         refine (hasR s j 35 124 true (by omega) hs HX.out _).mono ?_
         rintro e w0 ⟨rfl, rfl⟩
         go_wp2_with fail
         clear e1
         go_loop [1, 6] (fun v u => ∃ (k d : Nat), j + 2 ≤ k ∧ k ≤ s.size ∧ d ≤ k ∧ v = .int .i64 (k : Int) ∧ u = .int .i64 (d : Int) ∧ Hid (nestR d ((LA s).drop k) = R)) (fun v _ => s.size + 1 - (intOf v).toNat)
         case atStart => exact ⟨j + 2, 1, Nat.le_refl _, hj1, by omega, by go_num, rfl, HR⟩
         case round =>
          clear HR
          obtain ⟨k, d, hjk, hk, hdk, rfl, rfl, hE⟩ := hrel
          have hR := hE.out
          clear hE
          by_cases hd : 0 < d
          · have d0 : (0 : Int) < (d : Int) := by omega
            rcases la_cases s hk with ⟨hks, hl⟩ | ⟨hklt, hl⟩
            · rw [hl, nestR_nil hd] at hR
              have HR := Lib.hid hR
              have d1 : (s.size : Int) ≤ (k : Int) := by omega
              clear hR hl hks
              go_wp2
              first | exact bodyPost_ret (results_tmp2 rfl _ _) rfl ⟨SkF.none_ hk HR.out, rfl⟩ | exact Sy.retTT rfl rfl rfl ⟨SkF.none_ hk HR.out, rfl⟩
            · have d1 : ¬ (s.size : Int) ≤ (k : Int) := by omega
              rcases la_cases s (show k + 1 ≤ s.size from hklt) with ⟨hend, hl2⟩ | ⟨hlt2, hl2⟩
              · rw [hl, hl2, nestR_one hd, ← nestR_nil hd, ← hl2] at hR
                have HR := Lib.hid hR
                have HA1 : Hid (Lib.hasPrefix ((LA s).drop k) [35, 124] = false) := by show _ = _; rw [hl, hl2]; exact pre2_one _ _ _
                have HA2 : Hid (Lib.hasPrefix ((LA s).drop k) [124, 35] = false) := by show _ = _; rw [hl, hl2]; exact pre2_one _ _ _
                clear hR hl hl2 hend
                go_wp2_with fail
                refine (hasR s k 35 124 false (by omega) hs HA1.out _).mono ?_
                rintro e w0 ⟨rfl, rfl⟩
                go_wp2_with fail
                refine (hasR s k 124 35 false (by omega) hs HA2.out _).mono ?_
                rintro e w0 ⟨rfl, rfl⟩
                go_wp2
                go_round
                case rel => exact ⟨k + 1, d, by omega, hklt, by omega, by go_num, rfl, HR⟩
                case measure => simp [intOf]; omega
              · rw [hl, hl2, nestR_cons hd] at hR
                have hp1 : Lib.hasPrefix ((LA s).drop k) [35, 124] = (((35 : UInt8) == s[k]) && ((124 : UInt8) == s[k + 1])) := by rw [hl, hl2]; exact pre2 _ _ _ _ _
                have hp2 : Lib.hasPrefix ((LA s).drop k) [124, 35] = (((124 : UInt8) == s[k]) && ((35 : UInt8) == s[k + 1])) := by rw [hl, hl2]; exact pre2 _ _ _ _ _
                by_cases h2 : s[k] = 35 ∧ s[k + 1] = 124
                · rw [two_yes h2] at hp1
                  rw [if_pos h2] at hR
                  have HR := Lib.hid hR
                  have HA1 := Lib.hid hp1
                  clear hR hl hl2 hp1 hp2 h2
                  go_wp2_with fail
                  refine (hasR s k 35 124 true (by omega) hs HA1.out _).mono ?_
                  rintro e w0 ⟨rfl, rfl⟩
                  go_wp2
                  go_round
                  case rel => exact ⟨k + 2, d + 1, by omega, by omega, by omega, by go_num, by go_num, HR⟩
                  case measure => simp [intOf]; omega
                · rw [two_no h2] at hp1
                  rw [if_neg h2] at hR
                  by_cases h3 : s[k] = 124 ∧ s[k + 1] = 35
                  · rw [two_yes h3] at hp2
                    rw [if_pos h3] at hR
                    have HR := Lib.hid hR
                    have HA1 := Lib.hid hp1
                    have HA2 := Lib.hid hp2
                    clear hR hl hl2 hp1 hp2 h2 h3
                    go_wp2_with fail
                    refine (hasR s k 35 124 false (by omega) hs HA1.out _).mono ?_
                    rintro e w0 ⟨rfl, rfl⟩
                    go_wp2_with fail
                    refine (hasR s k 124 35 true (by omega) hs HA2.out _).mono ?_
                    rintro e w0 ⟨rfl, rfl⟩
                    go_wp2
                    go_round
                    case rel => exact ⟨k + 2, d - 1, by omega, by omega, by omega, by go_num, by go_num, HR⟩
                    case measure => simp [intOf]; omega
                  · rw [two_no h3] at hp2
                    rw [if_neg h3, ← hl2] at hR
                    have HR := Lib.hid hR
                    have HA1 := Lib.hid hp1
                    have HA2 := Lib.hid hp2
                    clear hR hl hl2 hp1 hp2 h2 h3
                    go_wp2_with fail
                    refine (hasR s k 35 124 false (by omega) hs HA1.out _).mono ?_
                    rintro e w0 ⟨rfl, rfl⟩
                    go_wp2_with fail
                    refine (hasR s k 124 35 false (by omega) hs HA2.out _).mono ?_
                    rintro e w0 ⟨rfl, rfl⟩
                    go_wp2
                    go_round
                    case rel => exact ⟨k + 1, d, by omega, hklt, by omega, by go_num, rfl, HR⟩
                    case measure => simp [intOf]; omega
          · have hd0 : d = 0 := by omega
            subst hd0
            rw [nestR_zero] at hR
            have HR := Lib.hid hR
            clear hR hd
            go_wp2
            go_round
            case rel => exact ⟨k, hk, by go_num, HR⟩
            case measure => simp [intOf]; omega
       · have hx2 : Lib.hasPrefix ((LA s).drop j) [35, 124] = false := by
          rcases la_cases s (show j + 1 ≤ s.size from hlt) with ⟨hend, hl2⟩ | ⟨hlt2, hl2⟩
          · rw [hl, hl2]; exact pre2_one _ _ _
          · exact Bool.eq_false_iff.2 fun e => hx ⟨hlt2, e⟩
         have hR2 : some ((LA s).drop j) = R := by
          rcases la_cases s (show j + 1 ≤ s.size from hlt) with ⟨hend, hl2⟩ | ⟨hlt2, hl2⟩
          · rw [hl, hl2, skipL_one _ hb h1] at hR
            rw [hl, hl2]
            exact hR
          · rw [hl, hl2, skipL_two _ _ _ hb h1, if_neg ?_] at hR
            · rw [hl, hl2]; exact hR
            · intro h2
              rw [hl, hl2, pre2, two_yes h2] at hx2
              cases hx2
         have HR := Lib.hid hR2
         have HX := Lib.hid hx2
         clear hR hR2 hl hb h1 hx hx2
         go_wp2_with fail
         refine (blankR s[j] _).mono ?_
         rintro e w0 ⟨rfl, rfl⟩
         rw [HB.out]
         go_wp2_with fail
         refine (hasR s j 35 124 false (by omega) hs HX.out _).mono ?_
         rintro e w0 ⟨rfl, rfl⟩
         go_wp2
         first | exact bodyPost_ret (results_tmp2 rfl _ _) rfl ⟨SkF.some_ hj HR.out, rfl⟩ | exact Sy.retTT rfl rfl rfl ⟨SkF.some_ hj HR.out, rfl⟩
theorem EB.store {ops : Array Oper} {rest : List Oper} {o : Oper} {a : Act} {w : World} {Q : Exit → Act → World → Prop} (x y : Operand) (ho : o.op = .store 26 x y) (hgd : o.guard = none)
 (g : Nat) (u v : Int) (u0 v0 : Value) (hx : a.eval x = .pointer (some ⟨g, 0, none⟩)) (hy : a.eval y = .agg #[.int .i64 u, .int .i64 v]) (hg : EB w g u0 v0)
 (h : wpList Tryz.prog ops Q rest (a.put o.dst undef) (w.setRow g #[.int .i64 u, .int .i64 v])) : wpList Tryz.prog ops Q (o :: rest) a w :=
 wpList_store_row hgd 26 x y ho g #[.int .i64 u, .int .i64 v] hx hy 26 #[u0, v0] hg (by kernel_rfl) rfl (by simp; exact ⟨rfl, rfl⟩) h
theorem resTTE {fn : Func} {r0 r1 r2 : Tmp} {tmps : Array Value} {w : World} {g : Nat} {u v x y : Value} (h : fn.results = #[.tmp r0, .tmp r1, .cell r2 26]) (h0 : tmps.getD r0 undef = x) (h1 : tmps.getD r1 undef = y) (h2 : tmps.getD r2 undef = .pointer (some ⟨g, 0, none⟩))
 (hg : EB w g u v) : (results fn tmps).run Tryz.prog w = .ok (.tuple #[x, y, .agg #[u, v]]) w := by
 subst h0 h1
 have h2' : tmps[r2]?.getD undef = .pointer (some ⟨g, 0, none⟩) := by simpa using h2
 simp [results, h, h2', asAddr, hg.run]
theorem EB.kp {w w' : World} {g B : Nat} {x y : Value} (h : EB w g x y) (hk : Kp5 B w w') (hg : g < B) : EB w' g x y := (hk.bel.block g hg).trans h
theorem EB.but {w w' : World} {g k : Nat} {x y : Value} (h : EB w g x y) (hb : But k w w') (hk : g ≠ k) : EB w' g x y := (hb.block g h.lt hk).trans h
def OutE (w : World) (s : ByteArray) (R : Sc (List UInt8)) (e : Ending) (w' : World) : Prop := Below w.heap.size w w' ∧ match R with
 | .ok b r => ∃ j : Nat, j ≤ s.size ∧ (LA s).drop j = r ∧ e = .returned (.tuple #[.string (BA b), .int .i64 (j : Int), .agg #[.int .i64 0, .int .i64 0]])
 | .bad x p => ∃ j : Nat, j ≤ s.size ∧ e = .returned (.tuple #[.string ⟨#[]⟩, .int .i64 (j : Int), .agg #[.int .i64 x, .int .i64 p]])
theorem OutE.ok_ {w w' : World} {s : ByteArray} {R : Sc (List UInt8)} {b : List UInt8} {j : Nat} (hb : Below w.heap.size w w') (hj : j ≤ s.size) (h : .ok b ((LA s).drop j) = R) : OutE w s R (.returned (.tuple #[.string (BA b), .int .i64 (j : Int), .agg #[.int .i64 0, .int .i64 0]])) w' := by
 subst h
 exact ⟨hb, j, hj, rfl, rfl⟩
theorem OutE.bad_ {w w' : World} {s : ByteArray} {R : Sc (List UInt8)} {x p : Int} {j : Nat} (hb : Below w.heap.size w w') (hj : j ≤ s.size) (h : .bad x p = R) : OutE w s R (.returned (.tuple #[.string ⟨#[]⟩, .int .i64 (j : Int), .agg #[.int .i64 x, .int .i64 p]])) w' := by
 subst h
 exact ⟨hb, j, hj, rfl⟩
structure EnR (w wr : World) (s : ByteArray) (m : UInt8) (R : Sc (List UInt8)) (i : Nat) (v : Value) (acc : List UInt8) : Prop where
 bel : Below w.heap.size w wr
 box : EB wr w.heap.size (.int .i64 0) (.int .i64 0)
 own : OwnB wr (w.heap.size + 1) v acc
 eq : encL s.size m acc ((LA s).drop i) = R
 len : acc.length ≤ i
set_option maxHeartbeats 8000000 in
set_option maxRecDepth 100000 in
theorem enclosedR (s : ByteArray) (i : Nat) (m : UInt8) (hi : i ≤ s.size) (hs : s.size ≤ 6000) (w : World) : Calls Tryz.prog 49 #[.string s, .int .i64 (i : Int), .int .u8 (m.toNat : Int)] w (OutE w s (encL s.size m [] ((LA s).drop i))) := by
 obtain ⟨R, hR⟩ : ∃ R, encL s.size m [] ((LA s).drop i) = R := ⟨_, rfl⟩
 rw [hR]
 have H0 : Hid (EnR w (w.alloc (.cells #[.int .i64 0, .int .i64 0] 26)) s m R i (.slice none 0 0) []) := ⟨Below.alloc (Below.refl _ _) (Nat.le_refl _) _, EB.new _ _ _, OwnB.nil_ _ _, hR, Nat.zero_le _⟩
 clear hR
 go_enter Tryz.func49, Tryz.ntmps49
 go_wp2_with fail
 go_loopw [1, 9] (fun u v wr => ∃ (j : Nat) (acc : List UInt8) (sl : Value), j ≤ s.size ∧ u = .int .i64 (j : Int) ∧ sl = v ∧ Hid (EnR w wr s m R j sl acc)) (fun u _ wr => s.size + 1 - (intOf u).toNat)
 case atStart => exact ⟨i, [], _, hi, rfl, rfl, H0⟩
 case round =>
  clear H0
  obtain ⟨j, acc, sl, hj, rfl, rfl, HE⟩ := hrel
  obtain ⟨wo, rfl⟩ : ∃ wo : World, wo = wr := ⟨_, rfl⟩
  have hR := HE.out.eq
  have hacc := HE.out.len
  rcases la_cases s hj with ⟨hjs, hl⟩ | ⟨hlt, hl⟩
  · rw [hl, encL] at hR
    have HR := Lib.hid hR
    have d1 : (s.size : Int) ≤ (j : Int) := by omega
    clear hR hl hjs
    go_wp2_with fail
    refine (badR 11 _ _).mono ?_
    rintro e w5 ⟨rfl, hb⟩
    have HT := Lib.hid (HE.out.box.keep hb)
    have HB := Lib.hid (chain5 HE.out.bel hb)
    clear hb
    go_wp2_with (refine EB.store (.tmp 8) (.tmp 27) rfl rfl w.heap.size 11 _ _ _ rfl rfl HT.out ?_)
    exact bodyPost_ret (resTTE rfl rfl rfl rfl (HT.out.set _ _)) rfl (OutE.bad_ (bel_set _ HB.out (Nat.le_refl _)) hj HR.out)
  · have d1 : ¬ (s.size : Int) ≤ (j : Int) := by omega
    have d2 : (0 : Int) ≤ (j : Int) ∧ (j : Int) < (s.size : Int) := by omega
    rw [hl, encL_cons] at hR
    by_cases h1 : s[j] = m
    · rw [if_pos h1] at hR
      have HR := Lib.hid hR
      have hx : ((s[j].toNat : Int) == (m.toNat : Int)) = true := by rw [byte_eq, h1]; simp
      have HT := Lib.hid HE.out.box
      have hcv := convOwn _ _ _ _ HE.out.own
      clear hR hl h1
      go_wp2_with (refine EB.store (.tmp 8) (.tmp 38) rfl rfl w.heap.size 0 0 _ _ rfl rfl HT.out ?_)
      exact bodyPost_ret (resTTE rfl rfl rfl rfl (HT.out.set _ _)) rfl (OutE.ok_ (j := j + 1) (bel_set _ HE.out.bel (Nat.le_refl _)) hlt HR.out)
    · rw [if_neg h1] at hR
      have hx : ((s[j].toNat : Int) == (m.toNat : Int)) = false := by rw [byte_eq, beq_eq_false_iff_ne]; exact h1
      by_cases h2 : s[j] = 92
      · rw [if_pos h2] at hR
        have hy : ((s[j].toNat : Int) != 92) = false := by rw [h2]; rfl
        rcases la_cases s (show j + 1 ≤ s.size from hlt) with ⟨hend, hl2⟩ | ⟨hlt2, hl2⟩
        · rw [hl2] at hR
          have HR : Hid (.bad 11 s.size = R) := hR
          have d3 : (s.size : Int) ≤ (j : Int) + 1 := by omega
          clear hR hl hl2 h1 h2 hend
          go_wp2_with fail
          refine (badR 11 _ _).mono ?_
          rintro e w5 ⟨rfl, hb⟩
          have HT := Lib.hid (HE.out.box.keep hb)
          have HB := Lib.hid (chain5 HE.out.bel hb)
          clear hb
          go_wp2_with (refine EB.store (.tmp 8) (.tmp 61) rfl rfl w.heap.size 11 _ _ _ rfl rfl HT.out ?_)
          exact bodyPost_ret (resTTE rfl rfl rfl rfl (HT.out.set _ _)) rfl (OutE.bad_ (bel_set _ HB.out (Nat.le_refl _)) hj HR.out)
        · rw [hl2] at hR
          have d3 : ¬ (s.size : Int) ≤ (j : Int) + 1 := by omega
          have d4 : (0 : Int) ≤ (j : Int) + 1 ∧ (j : Int) + 1 < (s.size : Int) := by omega
          by_cases h3 : s[j + 1] = m ∨ s[j + 1] = 92
          · have HR : Hid (encL s.size m (acc ++ [s[j + 1]]) ((LA s).drop (j + 2)) = R) := by show _ = _; rw [← hR]; exact (if_pos h3).symm
            clear hR hl hl2 h1 h2
            by_cases h4 : s[j + 1] = m
            · have hz : ((s[j + 1].toNat : Int) != (m.toNat : Int)) = false := by rw [byte_ne, h4]; simp
              clear h3 h4
              have hal := Lib.hid (show Below wo.heap.size wo (wo.alloc (.cells #[.int .u8 (s[j + 1].toNat : Int)] 5)) from Below.alloc (Below.refl _ _) (Nat.le_refl _) _)
              have hnw := Lib.hid (heap_alloc_new wo (.cells #[.int .u8 (s[j + 1].toNat : Int)] 5))
              have hob := Lib.hid (HE.out.own.kept5 hal.out)
              have hsz := Lib.hid (Nat.le_trans HE.out.box.lt hal.out.size)
              go_wp2_with (at_builtin; refine appByte5 rfl (.tmp 10) (.tmp 15) rfl rfl hob.out s[j + 1] wo.heap.size 1 rfl hnw.out (by omega) hsz.out ?_)
              intro v3 x3 h3 j3
              have HN : Hid (EnR w x3 s m R (j + 2) v3 (acc ++ [s[j + 1]])) := ⟨(chain5 HE.out.bel hal.out).trans (j3.bel.mono (Nat.le_succ _)), (HE.out.box.keep hal.out).kp j3 (Nat.lt_succ_self _), h3, HR.out, by rw [List.length_append]; simp only [List.length_cons, List.length_nil]; omega⟩
              clear h3 j3 hal hnw hob hsz
              go_wp2
              go_roundw
              case rel => exact ⟨(j + 2), _, _, by omega, by go_num, rfl, HN⟩
              case measure => simp [intOf]; omega
            · have hz : ((s[j + 1].toNat : Int) != (m.toNat : Int)) = true := by rw [byte_ne, bne_iff_ne]; exact h4
              have hu : ((s[j + 1].toNat : Int) != 92) = false := by rw [h3.resolve_left h4]; rfl
              clear h3 h4
              have hal := Lib.hid (show Below wo.heap.size wo (wo.alloc (.cells #[.int .u8 (s[j + 1].toNat : Int)] 5)) from Below.alloc (Below.refl _ _) (Nat.le_refl _) _)
              have hnw := Lib.hid (heap_alloc_new wo (.cells #[.int .u8 (s[j + 1].toNat : Int)] 5))
              have hob := Lib.hid (HE.out.own.kept5 hal.out)
              have hsz := Lib.hid (Nat.le_trans HE.out.box.lt hal.out.size)
              go_wp2_with (at_builtin; refine appByte5 rfl (.tmp 10) (.tmp 15) rfl rfl hob.out s[j + 1] wo.heap.size 1 rfl hnw.out (by omega) hsz.out ?_)
              intro v3 x3 h3 j3
              have HN : Hid (EnR w x3 s m R (j + 2) v3 (acc ++ [s[j + 1]])) := ⟨(chain5 HE.out.bel hal.out).trans (j3.bel.mono (Nat.le_succ _)), (HE.out.box.keep hal.out).kp j3 (Nat.lt_succ_self _), h3, HR.out, by rw [List.length_append]; simp only [List.length_cons, List.length_nil]; omega⟩
              clear h3 j3 hal hnw hob hsz
              go_wp2
              go_roundw
              case rel => exact ⟨(j + 2), _, _, by omega, by go_num, rfl, HN⟩
              case measure => simp [intOf]; omega
          · have HR : Hid (.bad 12 (j : Int) = R) := by
             show _ = _
             rw [← hR, ← posL_drop s hj, hl, hl2]
             exact (if_neg h3).symm
            have hz : ((s[j + 1].toNat : Int) != (m.toNat : Int)) = true := by rw [byte_ne, bne_iff_ne]; exact fun e => h3 (.inl e)
            have hu : ((s[j + 1].toNat : Int) != 92) = true := (byte_ne (a := s[j + 1]) (b := 92)).trans (bne_iff_ne.2 fun e => h3 (.inr e))
            clear hR hl hl2 h1 h2 h3
            go_wp2_with fail
            refine (badR 12 _ _).mono ?_
            rintro e w5 ⟨rfl, hb⟩
            have HT := Lib.hid (HE.out.box.keep hb)
            have HB := Lib.hid (chain5 HE.out.bel hb)
            clear hb
            go_wp2_with (refine EB.store (.tmp 8) (.tmp 78) rfl rfl w.heap.size 12 _ _ _ rfl rfl HT.out ?_)
            exact bodyPost_ret (resTTE rfl rfl rfl rfl (HT.out.set _ _)) rfl (OutE.bad_ (bel_set _ HB.out (Nat.le_refl _)) hj HR.out)
      · rw [if_neg h2] at hR
        have hy : ((s[j].toNat : Int) != 92) = true := (byte_ne (a := s[j]) (b := 92)).trans (bne_iff_ne.2 h2)
        have HR := Lib.hid hR
        clear hR hl h1 h2
        have hal := Lib.hid (show Below wo.heap.size wo (wo.alloc (.cells #[.int .u8 (s[j].toNat : Int)] 5)) from Below.alloc (Below.refl _ _) (Nat.le_refl _) _)
        have hnw := Lib.hid (heap_alloc_new wo (.cells #[.int .u8 (s[j].toNat : Int)] 5))
        have hob := Lib.hid (HE.out.own.kept5 hal.out)
        have hsz := Lib.hid (Nat.le_trans HE.out.box.lt hal.out.size)
        go_wp2_with (at_builtin; refine appByte5 rfl (.tmp 44) (.tmp 48) rfl rfl hob.out s[j] wo.heap.size 1 rfl hnw.out (by omega) hsz.out ?_)
        intro v3 x3 h3 j3
        have HN : Hid (EnR w x3 s m R (j + 1) v3 (acc ++ [s[j]])) := ⟨(chain5 HE.out.bel hal.out).trans (j3.bel.mono (Nat.le_succ _)), (HE.out.box.keep hal.out).kp j3 (Nat.lt_succ_self _), h3, HR.out, by rw [List.length_append]; simp only [List.length_cons, List.length_nil]; omega⟩
        clear h3 j3 hal hnw hob hsz
        go_wp2
        go_roundw
        case rel => exact ⟨(j + 1), _, _, by omega, by go_num, rfl, HN⟩
        case measure => simp [intOf]; omega
end Go.Proofs.YtflnffgohbbhiaaGreatDoor
