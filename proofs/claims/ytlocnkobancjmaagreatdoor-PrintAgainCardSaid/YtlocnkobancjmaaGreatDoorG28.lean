import Derived.Test.YtlocnkobancjmaaGreatDoorAl
import Derived.Test.YtlocnkobancjmaaGreatDoorG26
import Derived.Test.YtlocnkobancjmaaGreatDoorG27
import Derived.Test.YtlocnkobancjmaaGreatDoorG17
import Derived.Test.YtlocnkobancjmaaGreatDoorG16
import Derived.Test.YtlocnkobancjmaaGreatDoorG15
import Derived.Deep.RegionWith
import Derived.Test.YtlocnkobancjmaaGreatDoorG24
namespace Go.Proofs.YtlocnkobancjmaaGreatDoor
open Go Go.RowKit
set_option linter.unusedVariables false
set_option maxHeartbeats 32000000
set_option maxRecDepth 100000
theorem text_len (x : Int) : (text x).length ≤ (body (text x)).length + 1 := by
 have h : mag (text x) = x.natAbs := by
  have h := val_text x
  unfold val at h
  split at h <;> omega
 rw [← magText_mag (text x), h]
 unfold text signText
 split <;> simp
theorem scanS_ok {s : ByteArray} {ts : List Tk} (h : scanS s = .ok ts) : WfT ts ∧ ts.length ≤ s.size + 1 ∧ TkS ts := by
 unfold scanS at h
 by_cases hs : 6000 < s.size
 · rw [if_pos hs] at h; cases h
 · rw [if_neg hs] at h
   unfold toksS toksL at h
   have hl : (LA s).length = s.size := la_length s
   obtain ⟨h1, h2, h3⟩ := toks_wf okP numP sizP (P := fun x y => x.length ≤ 1000 ∧ y.length ≤ 1000) (fun b x y h1 h2 => by
    unfold numP nt dt sizP at *
    have e1 := text_len (numQ b x y).num
    have e2 := text_len ((numQ b x y).den : Int)
    simp only [la_ba] at *
    omega) _ _ _ _ h
   rw [hl] at h2
   exact ⟨h1, h2, by omega, fun t ht hk => (h3 t ht).2 hk⟩
structure SmS (s : ByteArray) : Prop where
 size : s.size ≤ 1000000
 toks : ∀ ts, scanS s = .ok ts → ts.length ≤ 700
theorem SmS.of {s : ByteArray} (h : s.size ≤ 699) : SmS s := ⟨by omega, fun ts ht => by have := (scanS_ok ht).2.1; omega⟩
structure Tws (B : Nat) (w : World) (v sv : Value) (xs : List (Ob × Value)) (ps : List Int) : Prop where
 own : w.ownsRow B 27 7 v xs.length (flatC xs)
 pairs : ∀ x ∈ xs, Pair w (fun b => B ≤ b ∧ b < w.heap.size ∧ v.ownBlock ≠ some b ∧ sv.ownBlock ≠ some b) x.1 x.2
 st : w.ownsRow B 3 1 sv ps.length (ps.map (Value.int .i64))
 apart : ∀ b, v.ownBlock = some b → sv.ownBlock ≠ some b
theorem Tws.start (B : Nat) (w : World) : Tws B w (.slice none 0 0) (.slice none 0 0) [] [] := ⟨⟨rfl, .inl ⟨rfl, rfl⟩⟩, fun x hx => by simp at hx, ⟨rfl, .inl ⟨rfl, rfl⟩⟩, fun b hb => by simp [Value.ownBlock] at hb⟩
theorem Tws.move {B : Nat} {w w' : World} {v sv : Value} {xs : List (Ob × Value)} {ps : List Int} (h : Tws B w v sv xs ps) (hs : w.heap.size ≤ w'.heap.size) (hk : ∀ k, B ≤ k → k < w.heap.size → w'.heap[k]? = w.heap[k]?) : Tws B w' v sv xs ps :=
 ⟨own_keep h.own fun g hg => hk g (own_lt h.own g hg).1 (own_lt h.own g hg).2, fun x hx => (h.pairs x hx).keep (fun b hb => ⟨hb.1, by omega, hb.2.2⟩) (fun b hb => hk b hb.1 hb.2.1), own_keep h.st fun g hg => hk g (own_lt h.st g hg).1 (own_lt h.st g hg).2, h.apart⟩
theorem Tws.keep {B : Nat} {w w' : World} {v sv : Value} {xs : List (Ob × Value)} {ps : List Int} (h : Tws B w v sv xs ps) (hb : Below w.heap.size w w') : Tws B w' v sv xs ps := h.move hb.size fun k _ hk => hb.block k hk
theorem Tws.but {B g : Nat} {w w' : World} {v sv : Value} {xs : List (Ob × Value)} {ps : List Int} (h : Tws B w v sv xs ps) (hb : But g w w') (hg : g < B) : Tws B w' v sv xs ps := h.move hb.size fun k h1 hk => hb.block k hk (by omega)
theorem Tws.less {B B' : Nat} {w : World} {v sv : Value} {xs : List (Ob × Value)} {ps : List Int} (h : Tws B w v sv xs ps) (hB : B' ≤ B) : Tws B' w v sv xs ps := by
 have key : ∀ {e : TypeId} {z n : Nat} {u : Value} {ys : List Value}, w.ownsRow B e z u n ys → w.ownsRow B' e z u n ys := fun {e z n u ys} h => by
  refine ⟨h.1, ?_⟩
  rcases h.2 with h0 | ⟨g, cap, cur, rfl, hb, hr⟩
  · exact .inl h0
  · exact .inr ⟨g, cap, cur, rfl, by omega, hr⟩
 exact ⟨key h.own, fun x hx => (h.pairs x hx).more fun b hb => ⟨by omega, hb.2⟩, key h.st, h.apart⟩
theorem infoI5 : ∃ i, Tryz.prog.info? 3 = some i ∧ i.zero = some (.int .i64 0) ∧ i.size = 1 ∧ i.bytes = 8 := info_of (P := Tryz.prog) (t := 3) (z := .int .i64 0) (a := 1) (b := 8) (by kernel_rfl)
theorem appTwo1 {ops : Array Oper} {rest : List Oper} {oo : Oper} {a : Act} {w : World} {Q : Exit → Act → World → Prop} (hgd : oo.guard = none) (sl x : Operand)
 (ho : oo.op = .call { callee := .builtin .append, args := #[sl, x], argTypes := #[25, 25] }) {B : Nat} {v sv : Value} {xs : List (Ob × Value)} {ps : List Int} (hs : a.eval sl = v) (hI : Tws B w v sv xs ps) (o : Ob) (p x0 x1 x2 x3 x4 x5 : Value) (hz : Val7 o p x0 x1 x2 x3 x4 x5) (g c : Nat) (hx : a.eval x = .slice (some ⟨g, 0, none⟩) 1 c)
 (hg : w.heap[g]? = some (.cells #[x0, x1, x2, x3, x4, x5, p] 27 (0, 0))) (hp : Pair w (fun b => B ≤ b ∧ b < w.heap.size ∧ v.ownBlock ≠ some b ∧ sv.ownBlock ≠ some b) o p) (hl : xs.length ≤ 100000) (hB : B ≤ w.heap.size)
 (h : ∀ v' w', Tws B w' v' sv (xs ++ [(o, p)]) ps → Below B w w' → wpList Tryz.prog ops Q rest (a.put oo.dst v') w') : wpList Tryz.prog ops Q (oo :: rest) a w := by
 obtain ⟨i0, hi, hz0, hz1, hz2⟩ := infoO
 have hone : ∀ u ∈ [x0, x1, x2, x3, x4, x5, p], u.oneCell' = true := by
  have := hp.one
  rw [hz] at this
  intro u hu
  rw [Array.all_eq_true_iff_forall_mem] at this
  exact this u (by simpa using hu)
 refine wpList_append_own_at w hgd sl x 25 ho B 27 i0 _ 7 112 Tryz.underlying25 hi hz0 hz1 hz2 rfl (by omega) v xs.length (flatC xs) hs hI.own ⟨g, 0, none⟩ 1 c [x0, x1, x2, x3, x4, x5, p] hx rfl (cell_row5 hg) hone (by unfold maxLen; omega) (by omega) hB ?_
 intro v' w' h1 h2 _ hat
 have hown := own_lt hI.own
 have hst := own_lt hI.st
 have hne' : ∀ b, b < w.heap.size → v.ownBlock ≠ some b → v'.ownBlock ≠ some b := fun b hb' hne e => by
  rcases hat with h0 | h0
  · exact hne (h0.symm.trans e)
  · rw [h0] at e
    have : w.heap.size = b := by injection e
    omega
 have hsz := h2.size
 have key : ∀ o p, Pair w (fun b => B ≤ b ∧ b < w.heap.size ∧ v.ownBlock ≠ some b ∧ sv.ownBlock ≠ some b) o p → Pair w' (fun b => B ≤ b ∧ b < w'.heap.size ∧ v'.ownBlock ≠ some b ∧ sv.ownBlock ≠ some b) o p := fun o p hq =>
  hq.keep (fun b hb' => ⟨hb'.1, by omega, hne' b hb'.2.1 hb'.2.2.1, hb'.2.2.2⟩) (fun b hb' => h2.block b hb'.2.1 (fun e => hb'.2.2.1 e.symm))
 refine h v' w' ⟨?_, fun y hy => ?_, own_keep hI.st fun k hk => h2.block k (hst k hk).2 (fun e => hI.apart k e.symm hk), fun b hb => ?_⟩ ((Below.refl B w).grown h2 hB (fun k hk => (hown k hk).1))
 · rw [flatC_snoc, List.length_append]
   rw [hz]
   exact h1
 · rcases List.mem_append.1 hy with hy | hy
   · exact key _ _ (hI.pairs y hy)
   · obtain rfl : y = (o, p) := by simpa using hy
     exact key _ _ hp
 · rcases hat with h0 | h0
   · exact hI.apart b (h0.symm.trans hb)
   · rw [h0] at hb
     have : w.heap.size = b := by injection hb
     intro e
     have := (hst b e).2
     omega
theorem appTwo2 {ops : Array Oper} {rest : List Oper} {oo : Oper} {a : Act} {w : World} {Q : Exit → Act → World → Prop} (hgd : oo.guard = none) (sl x : Operand)
 (ho : oo.op = .call { callee := .builtin .append, args := #[sl, x], argTypes := #[68, 68] }) {B : Nat} {v sv : Value} {xs : List (Ob × Value)} {ps : List Int} (hs : a.eval sl = sv) (hI : Tws B w v sv xs ps) (q : Int) (g c : Nat) (hx : a.eval x = .slice (some ⟨g, 0, none⟩) 1 c)
 (hg : w.heap[g]? = some (.cells #[.int .i64 q] 3 (0, 0))) (hl : ps.length ≤ 100000) (hB : B ≤ w.heap.size)
 (h : ∀ v' w', Tws B w' v v' xs (ps ++ [q]) → Below B w w' → wpList Tryz.prog ops Q rest (a.put oo.dst v') w') : wpList Tryz.prog ops Q (oo :: rest) a w := by
 obtain ⟨i0, hi, hz0, hz1, hz2⟩ := infoI5
 have hone : ∀ u ∈ [Value.int .i64 q], u.oneCell' = true := fun u hu => by
  rw [List.mem_singleton.1 hu]; rfl
 refine wpList_append_own_at w hgd sl x 68 ho B 3 i0 _ 1 8 Tryz.underlying68 hi hz0 hz1 hz2 rfl (by omega) sv ps.length (ps.map (Value.int .i64)) hs hI.st ⟨g, 0, none⟩ 1 c [.int .i64 q] hx rfl (cell_row5 hg) hone (by unfold maxLen; omega) (by omega) hB ?_
 intro v' w' h1 h2 _ hat
 have hown := own_lt hI.own
 have hst := own_lt hI.st
 have hne' : ∀ b, b < w.heap.size → sv.ownBlock ≠ some b → v'.ownBlock ≠ some b := fun b hb' hne e => by
  rcases hat with h0 | h0
  · exact hne (h0.symm.trans e)
  · rw [h0] at e
    have : w.heap.size = b := by injection e
    omega
 have hsz := h2.size
 refine h v' w' ⟨own_keep hI.own fun k hk => h2.block k (hown k hk).2 (fun e => hI.apart k hk e.symm), fun y hy => (hI.pairs y hy).keep (fun b hb' => ⟨hb'.1, by omega, hb'.2.2.1, hne' b hb'.2.1 hb'.2.2.2⟩) (fun b hb' => h2.block b hb'.2.1 (fun e => hb'.2.2.2 e.symm)), ?_, fun b hb => hne' b (hown b hb).2 (hI.apart b hb)⟩ ((Below.refl B w).grown h2 hB (fun k hk => (hst k hk).1))
 rw [List.map_append, List.length_append]
 exact h1
def OutA (w : World) (R : Except (Int × Int) (List (Ob × Int))) (e : Ending) (w' : World) : Prop := Below w.heap.size w w' ∧ match R with
 | .ok l => ∃ v sv xs ps, e = .returned (.tuple #[v, sv]) ∧ Tws w.heap.size w' v sv xs ps ∧ l = (fsts xs).zip ps ∧ xs.length = ps.length
 | .error x => e = .panicked [{ v := errV x.1 x.2, recovered := false }]
def readS (l : List Sy.Pg) (cur s : ByteArray) : Except (Int × Int) (List (Ob × Int)) := match scanS s with
 | .error x => .error x
 | .ok ts => readL (symL l cur) numK ts
structure RaR (w w1 wr : World) (g : Nat) (l : List Sy.Pg) (lv : Value) (cur : ByteArray) (R : Except (Int × Int) (List (Ob × Int))) (N : Nat) (v sv : Value) (xs : List (Ob × Value)) (ps : List Int) (ts : List Tk) (f : Nat) : Prop where
 pr : Psr w1 wr g l lv cur ts
 bel : Below w.heap.size w wr
 two : Tws (g + 1) wr v sv xs ps
 eq : allF (symL l cur) numK f ((fsts xs).zip ps) ts = (R, true)
 wf : WfT ts
 ks : TkS ts
 ln : xs.length = ps.length
 le : xs.length + ts.length ≤ N
theorem all_some {t : Tk} {r : List Tk} {f : Nat} {sym : Tk → (List UInt8 × List UInt8) × Int} {num : Tk → Rat} {acc : List (Ob × Int)} {R : Except (Int × Int) (List (Ob × Int))} (h : allF sym num f acc (t :: r) = (R, true)) : ∃ f2, f = f2 + 1 := by
 cases f with
 | zero => unfold allF at h; simp at h
 | succ k => exact ⟨k, rfl⟩
theorem zip_len {xs : List (Ob × Value)} {ps : List Int} (h : xs.length = ps.length) : ((fsts xs).zip ps).length = xs.length := by rw [List.length_zip, fsts_len]; omega
theorem zip_snoc {xs : List (Ob × Value)} {ps : List Int} (h : xs.length = ps.length) (o : Ob) (p : Value) (q : Int) : (fsts (xs ++ [(o, p)])).zip (ps ++ [q]) = (fsts xs).zip ps ++ [(o, q)] := by
 rw [fsts_snoc, List.zip_append (by rw [fsts_len]; exact h)]; rfl
theorem Psr.below {W0 w w' : World} {g B : Nat} {l : List Sy.Pg} {lv : Value} {cur : ByteArray} {ts : List Tk} (h : Psr W0 w g l lv cur ts) (hb : Below B w w') (hB : g < B) : Psr W0 w' g l lv cur ts := by
 obtain ⟨tv, h1, h2, h3, h4⟩ := h
 exact ⟨tv, (hb.block g hB).trans h1, h2, h3.trans (hb.mono (by omega)), h4⟩
theorem allF_tk (sym : Tk → (List UInt8 × List UInt8) × Int) (num : Tk → Rat) (f : Nat) (acc : List (Ob × Int)) (tk tp : Int) (tq tt td : List UInt8) (r : List Tk) : allF sym num (f + 1) acc (⟨tk, tp, tq, tt, td⟩ :: r) =
 if tk = 0 then (.ok acc, true) else
 if acc.length = 100 ∧ tk ≠ 2 ∧ tk ≠ 3 then (.error (2, tp), true) else
 match parF sym num (2 * (r.length + 1) + 2) 0 (⟨tk, tp, tq, tt, td⟩ :: r) with
 | .out => (.error (0, 0), false)
 | .bad e p => (.error (e, p), true)
 | .ok o r => if 3000 < o.nodes then (.error (2, tp), true) else allF sym num f (acc ++ [(o, tp)]) r := by rw [allF_cons]; rfl
theorem retTT5 {fn : Func} {r0 r1 : Tmp} {tmps : Array Value} {w : World} {u v : Value} {Q : Ending → World → Prop} (h : fn.results = #[.tmp r0, .tmp r1]) (h0 : tmps.getD r0 undef = u) (h1 : tmps.getD r1 undef = v) (hQ : Q (.returned (.tuple #[u, v])) w) : bodyPost Tryz.prog fn Q Exit.ret ⟨tmps, []⟩ w := by
 subst h0
 subst h1
 exact bodyPost_ret (v := .tuple #[tmps.getD r0 undef, tmps.getD r1 undef]) (by simp [results, h]) rfl hQ
theorem Tws.lenv {B : Nat} {w : World} {v sv : Value} {xs : List (Ob × Value)} {ps : List Int} (h : Tws B w v sv xs ps) : ∃ A c, v = .slice A xs.length c := by
 rcases h.own.2 with ⟨rfl, hn⟩ | ⟨g, cap, cur, rfl, _⟩
 · exact ⟨none, 0, by rw [hn]⟩
 · exact ⟨_, _, rfl⟩
theorem readAllP (s cur : ByteArray) (l : List Sy.Pg) (lv : Value) (w : World) (hl : Sy.PgV w l lv) (hpb : PgB l) (hn : SmS s) : Calls Tryz.prog 68 #[lv, .string cur, .string s] w (OutA w (readS l cur s)) := by
 have KS := hI (scanP s w (by have := hn.size; omega))
 have HL := hI hl
 obtain ⟨lA, lc, hlv, _⟩ := hl
 subst hlv
 unfold readS
 cases hS : scanS s with
 | error x =>
  rw [hS] at KS
  obtain ⟨x, p⟩ := x
  clear hS hpb hn
  go_enter Tryz.func68, Tryz.ntmps68
  go_wp2_with fail
  refine KS.out.mono ?_
  rintro e w1 ⟨hb, he⟩
  replace he : e = _ := he
  subst he
  exact ⟨rfl, hb, rfl⟩
 | ok ts =>
  rw [hS] at KS
  show Calls _ _ _ _ (OutA w (readL (symL l cur) numK ts))
  obtain ⟨h1, h2, h3⟩ := scanS_ok hS
  have h4 := readL_eq (symL l cur) numK ts h1
  obtain ⟨R, hR⟩ : ∃ R, readL (symL l cur) numK ts = R := ⟨_, rfl⟩
  rw [hR] at h4 ⊢
  have HPB := hI hpb
  have H1 := hI h1
  have H2 : Hid (ts.length ≤ 700) := hn.toks ts hS
  have H3 := hI h3
  have H4 := hI h4
  clear h1 h2 h3 h4 hR hS hpb hn
  go_enter Tryz.func68, Tryz.ntmps68
  go_wp2_with fail
  refine KS.out.mono ?_
  rintro e w1 ⟨hb, v, rfl, hv⟩
  have HV := hI hv
  obtain ⟨tA, tc, htv, _⟩ := hv
  subst htv
  have H0 : Hid (RaR w w1 (w1.alloc (.cells #[.slice lA l.length lc, .string cur, .slice tA ts.length tc] 154)) w1.heap.size l (.slice lA l.length lc) cur R ts.length (.slice none 0 0) (.slice none 0 0) [] [] ts ts.length) :=
   ⟨⟨_, heap_alloc_new _ _, Nat.le_refl _, Below.alloc (Below.refl _ _) (Nat.le_refl _) _, HL.out.keep hb, HV.out.less (Nat.zero_le _)⟩, hb.trans (Below.alloc (Below.refl _ _) hb.size _), Tws.start _ _, H4.out, H1.out, H3.out, rfl, by simp⟩
  have HWG : Hid (w.heap.size ≤ w1.heap.size) := hb.size
  obtain ⟨N, hNN⟩ : ∃ N, ts.length = N := ⟨_, rfl⟩
  obtain ⟨f0, hf0⟩ : ∃ f0, f0 = N := ⟨_, rfl⟩
  rw [hNN, ← hf0] at H0
  rw [hNN, ← hf0] at H2
  rw [hNN, ← hf0]
  clear hb HV H4 H1 H3 HL KS hNN hf0
  go_wp2_with fail
  obtain ⟨lv, hlv⟩ : ∃ lv, Value.slice lA l.length lc = lv := ⟨_, rfl⟩
  generalize w1.alloc (.cells #[.slice lA l.length lc, .string cur, .slice tA f0 tc] 154) = W1 at H0 ⊢
  rw [hlv] at H0
  generalize w1.heap.size = g at H0 HWG ⊢
  clear hlv
  go_loopw [6, 7] (fun v u wr => ∃ (xs : List (Ob × Value)) (ps : List Int) (t : Tk) (r : List Tk) (f' : Nat) (vv sv : Value), vv = v ∧ sv = u ∧ Hid (RaR w w1 wr g l lv cur R f0 vv sv xs ps (t :: r) f')) (fun _ _ wr => tkN g wr)
  case atStart =>
   cases ts with
   | nil => exact absurd rfl H0.out.wf.ne
   | cons t r => exact ⟨[], [], t, r, _, _, _, rfl, rfl, H0⟩
  case round =>
   clear H0
   obtain ⟨xs, ps, t, r, f', vv, sv, rfl, rfl, HE⟩ := hrel
   obtain ⟨wo, rfl⟩ : ∃ wo : World, wo = wr := ⟨_, rfl⟩
   have HM := hI HE.out.pr.tkN
   obtain ⟨f2, hf2⟩ := all_some HE.out.eq
   subst hf2
   obtain ⟨tk, tp, tq, tt, td⟩ := t
   obtain ⟨A, cc, hsl⟩ := HE.out.two.lenv
   obtain ⟨n, hn⟩ : ∃ n, xs.length = n := ⟨_, rfl⟩
   rw [hn] at hsl
   subst hsl
   have hq := HE.out.eq
   rw [allF_tk] at hq
   have hzl := zip_len HE.out.ln
   rw [hn] at hzl
   have HNn := hI hn
   have KP : Hid (∀ w, Psr w1 w g l lv cur ((⟨tk, tp, tq, tt, td⟩ : Tk) :: r) → Calls Tryz.prog 111 #[.pointer (some ⟨g, 0, none⟩)] w (fun e w' => e = .returned (.int .i64 tk) ∧ w = w')) := fun w h => peekPs w1 w g l lv cur _ r h
   by_cases k0 : tk = 0
   · rw [if_pos k0] at hq
     have HQ : Hid (Except.ok ((fsts xs).zip ps) = R) := by injection hq
     have e0 : (tk != 0) = false := by rw [k0]; rfl
     clear hq k0 hzl hn
     go_wp2_with fail
     refine (KP.out _ HE.out.pr).mono ?_
     rintro e w2 ⟨rfl, rfl⟩
     go_wp2_with fail
     refine retTT5 rfl rfl rfl ?_
     rw [← HQ.out]
     exact ⟨HE.out.bel, _, _, xs, ps, rfl, HE.out.two.less (Nat.le_succ_of_le HWG.out), rfl, HE.out.ln⟩
   · rw [if_neg k0] at hq
     have e0 : (tk != 0) = true := by rw [bne_iff_ne]; exact k0
     have h01 : (0 : Int) < ((r.length + 1 : Nat) : Int) := by omega
     obtain ⟨b, o, c, HC0⟩ := HE.out.pr.open
     have c0 := HC0.c0
     have c1 := HC0.c1
     have c2 := HC0.c2
     have t0 := HC0.t0
     have t1 := HC0.t1
     have t2 := HC0.t2
     have t3 := HC0.t3
     have t4 := HC0.t4
     have hcr := HC0.hc
     have hcm := HC0.hm
     have cf := HC0.cf
     unfold maxLen at hcm
     have HC := hI HC0
     clear HC0
     by_cases hb1 : n = 100 ∧ tk ≠ 2 ∧ tk ≠ 3
     · rw [if_pos ⟨hzl.trans hb1.1, hb1.2⟩] at hq
       have HQ : Hid (Except.error (2, tp) = R) := by injection hq
       have en : ((n : Int) == 100) = true := by rw [hb1.1]; rfl
       have e2 : (tk != 2) = true := by rw [bne_iff_ne]; exact hb1.2.1
       have e3 : (tk != 3) = true := by rw [bne_iff_ne]; exact hb1.2.2
       clear hq k0 hzl hn hb1
       go_wp2_with fail
       refine (KP.out _ HE.out.pr).mono ?_
       rintro e w2 ⟨rfl, rfl⟩
       go_wp2_with fail
       refine (KP.out _ HE.out.pr).mono ?_
       rintro e w2 ⟨rfl, rfl⟩
       go_wp2_with fail
       refine (KP.out _ HE.out.pr).mono ?_
       rintro e w2 ⟨rfl, rfl⟩
       go_wp2_with fail
       refine (reportP 2 _ _ g).mono ?_
       rintro e w5 ⟨rfl, hb⟩
       have hZ : OutA w R (.panicked [{ v := errV 2 tp, recovered := false }]) w5 := by
        rw [← HQ.out]
        exact ⟨HE.out.bel.trans (hb.below HWG.out (Nat.le_trans HWG.out (Nat.le_of_lt HE.out.pr.lt))), rfl⟩
       exact ⟨rfl, hZ⟩
     · rw [if_neg (by rw [hzl]; exact hb1)] at hq
       have hin := (par_in (symL l cur) numK (2 * (r.length + 1) + 2)).1 0 ((⟨tk, tp, tq, tt, td⟩ : Tk) :: r) HE.out.wf (by simp only [List.length_cons]; omega)
       have KO0 : Hid (∀ w, Psr w1 w g l lv cur ((⟨tk, tp, tq, tt, td⟩ : Tk) :: r) → Calls Tryz.prog 112 #[.pointer (some ⟨g, 0, none⟩), .int .i64 0] w (OutP w1 w g l lv cur (parF (symL l cur) numK (2 * (r.length + 1) + 2) 0 ((⟨tk, tp, tq, tt, td⟩ : Tk) :: r)))) := fun w h => obAll _ w1 w g l lv cur 0 _ h HE.out.wf HE.out.ks HPB.out (by omega) (by omega) hin
       cases hp : parF (symL l cur) numK (2 * (r.length + 1) + 2) 0 ((⟨tk, tp, tq, tt, td⟩ : Tk) :: r) with
       | out => exact absurd hp hin
       | bad x q =>
        rw [hp] at hq
        have HQ : Hid (Except.error (x, q) = R) := by injection hq
        have KO : Hid (∀ w, Psr w1 w g l lv cur ((⟨tk, tp, tq, tt, td⟩ : Tk) :: r) → Calls Tryz.prog 112 #[.pointer (some ⟨g, 0, none⟩), .int .i64 0] w (PanS w g x q)) := fun w h => by
         have := KO0.out w h
         rw [hp] at this
         exact this
        have hcs : ((n : Int) == 100) = false ∨ (((n : Int) == 100) = true ∧ (tk != 2) = false) ∨ (((n : Int) == 100) = true ∧ (tk != 2) = true ∧ (tk != 3) = false) := by
         by_cases hn1 : n = 100
         · right
           have en : ((n : Int) == 100) = true := by rw [hn1]; rfl
           by_cases k2 : tk = 2
           · left; rw [k2]; exact ⟨en, rfl⟩
           · right
             have k3 : tk = 3 := Classical.byContradiction fun e => hb1 ⟨hn1, k2, e⟩
             rw [k3]; exact ⟨en, rfl, rfl⟩
         · left; rw [beq_eq_false_iff_ne]; omega
        clear hq k0 hzl hn hb1 hin KO0 hp
        rcases hcs with en | ⟨en, e2⟩ | ⟨en, e2, e3⟩
        · go_wp2_with fail
          refine (KP.out _ HE.out.pr).mono ?_
          rintro e w2 ⟨rfl, rfl⟩
          go_wp2_with fail
          refine (KO.out _ HE.out.pr).mono ?_
          rintro e w5 ⟨rfl, hb⟩
          have hZ : OutA w R (.panicked [{ v := errV x q, recovered := false }]) w5 := by
           rw [← HQ.out]
           exact ⟨HE.out.bel.trans (hb.below HWG.out (Nat.le_trans HWG.out (Nat.le_of_lt HE.out.pr.lt))), rfl⟩
          exact ⟨rfl, hZ⟩
        · go_wp2_with fail
          refine (KP.out _ HE.out.pr).mono ?_
          rintro e w2 ⟨rfl, rfl⟩
          go_wp2_with fail
          refine (KP.out _ HE.out.pr).mono ?_
          rintro e w2 ⟨rfl, rfl⟩
          go_wp2_with fail
          refine (KO.out _ HE.out.pr).mono ?_
          rintro e w5 ⟨rfl, hb⟩
          have hZ : OutA w R (.panicked [{ v := errV x q, recovered := false }]) w5 := by
           rw [← HQ.out]
           exact ⟨HE.out.bel.trans (hb.below HWG.out (Nat.le_trans HWG.out (Nat.le_of_lt HE.out.pr.lt))), rfl⟩
          exact ⟨rfl, hZ⟩
        · go_wp2_with fail
          refine (KP.out _ HE.out.pr).mono ?_
          rintro e w2 ⟨rfl, rfl⟩
          go_wp2_with fail
          refine (KP.out _ HE.out.pr).mono ?_
          rintro e w2 ⟨rfl, rfl⟩
          go_wp2_with fail
          refine (KP.out _ HE.out.pr).mono ?_
          rintro e w2 ⟨rfl, rfl⟩
          go_wp2_with fail
          refine (KO.out _ HE.out.pr).mono ?_
          rintro e w5 ⟨rfl, hb⟩
          have hZ : OutA w R (.panicked [{ v := errV x q, recovered := false }]) w5 := by
           rw [← HQ.out]
           exact ⟨HE.out.bel.trans (hb.below HWG.out (Nat.le_trans HWG.out (Nat.le_of_lt HE.out.pr.lt))), rfl⟩
          exact ⟨rfl, hZ⟩
       | ok o r1 =>
        rw [hp] at hq
        have hsm := objs_small (symL l cur) numK HE.out.wf (by have := HE.out.le; have := H2.out; omega) 0 hp
        have hpk := (par_ok (symL l cur) numK (2 * (r.length + 1) + 2)).1 0 _ HE.out.wf
        rw [hp] at hpk
        have hsf := (par_suf (symL l cur) numK _).1 0 _ o r1 hp
        have hn1 : n ≠ 100 := fun e => hb1 ⟨e, fun k => by
         subst k; rw [parF_tk] at hp; simp at hp, fun k => by
         subst k; rw [parF_tk] at hp; simp at hp⟩
        have en : ((n : Int) == 100) = false := by rw [beq_eq_false_iff_ne]; omega
        have KO : Hid (∀ w, Psr w1 w g l lv cur ((⟨tk, tp, tq, tt, td⟩ : Tk) :: r) → Calls Tryz.prog 112 #[.pointer (some ⟨g, 0, none⟩), .int .i64 0] w (OutP w1 w g l lv cur (.ok o r1))) := fun w h => by
         have := KO0.out w h
         rw [hp] at this
         exact this
        replace hq : (if 3000 < o.nodes then (Except.error (2, tp), true) else allF (symL l cur) numK f2 ((fsts xs).zip ps ++ [(o, tp)]) r1) = (R, true) := hq
        rw [if_neg (by omega), ← zip_snoc HE.out.ln o undef tp] at hq
        have HQ := hI hq
        have HPK := hI (And.intro hpk.1 (And.intro hpk.2.1 (HE.out.ks.suf hsf)))
        have hxl : xs.length ≤ 100000 := by have := HE.out.le; have := H2.out; omega
        have HXL := hI hxl
        have e3k : ¬ (3000 : Int) < (o.nodes : Int) := by omega
        have HSM := hI hsm
        have HLN := hI HE.out.ln
        have HLE := hI HE.out.le
        clear hq k0 hzl hn hb1 hin KO0 hp hpk hsf hn1 hxl hsm
        go_wp2_with fail
        refine (KP.out _ HE.out.pr).mono ?_
        rintro e w2 ⟨rfl, rfl⟩
        go_wp2_with fail
        refine (KO.out _ HE.out.pr).mono ?_
        rintro e w5 ⟨p, rfl, hp, hps, hb⟩
        obtain ⟨x0, x1, x2, x3, x4, x5, hz⟩ := cells7 o p
        have HZ : Hid (Val7 o p x0 x1 x2 x3 x4 x5) := hz
        have HG1 := hI HE.out.pr.lt
        have HP5 := hI (show Pair w5 (fun b => g + 1 ≤ b ∧ b < w5.heap.size ∧ (Value.slice A n cc).ownBlock ≠ some b ∧ sv.ownBlock ≠ some b) o p from hp.more fun b hb' => ⟨by have := HG1.out; omega, hb'.2, fun e => by have := (own_lt HE.out.two.own b e).2; omega, fun e => by have := (own_lt HE.out.two.st b e).2; omega⟩)
        have HT5 := hI (HE.out.two.but hb (Nat.lt_succ_self _))
        have HB5 := hI (HE.out.bel.trans (hb.below HWG.out (Nat.le_trans HWG.out (Nat.le_of_lt HG1.out))))
        have hal := hI (show Below w5.heap.size w5 ((w5.alloc (.cells #[.int .i64 0, .string ⟨#[]⟩, .string ⟨#[]⟩, .string ⟨#[]⟩, .string ⟨#[]⟩, .string ⟨#[]⟩, .slice none 0 0] 27)).setRow w5.heap.size (cellsO o p).toArray) from below_setRowO (Below.alloc (Below.refl _ _) (Nat.le_refl _) _) (Nat.le_refl _) _)
        have HO6 : Hid (ObB ((w5.alloc (.cells #[.int .i64 0, .string ⟨#[]⟩, .string ⟨#[]⟩, .string ⟨#[]⟩, .string ⟨#[]⟩, .string ⟨#[]⟩, .slice none 0 0] 27)).setRow w5.heap.size (cellsO o p).toArray) w5.heap.size #[x0, x1, x2, x3, x4, x5, p]) := (setRow_heap _ _ _ _ _ _ (heap_alloc_new w5 _)).trans (by rw [hz])
        have HR6 := hI (hps.keep hal.out)
        have HT6 := hI (HT5.out.keep hal.out)
        have HB6 := hI (HB5.out.trans (hal.out.mono HB5.out.size))
        have HP6 := hI (HP5.out.keep (S' := fun b => g + 1 ≤ b ∧ b < ((w5.alloc (.cells #[.int .i64 0, .string ⟨#[]⟩, .string ⟨#[]⟩, .string ⟨#[]⟩, .string ⟨#[]⟩, .string ⟨#[]⟩, .slice none 0 0] 27)).setRow w5.heap.size (cellsO o p).toArray).heap.size ∧ (Value.slice A n cc).ownBlock ≠ some b ∧ sv.ownBlock ≠ some b) (fun b hb' => ⟨hb'.1, by have := hal.out.size; omega, hb'.2.2⟩) (fun b hb' => hal.out.block b hb'.2.1))
        clear hps hb hz HE HP5 HT5 HB5 hal c0 c1 c2 t0 t1 t2 t3 t4 cf HC
        go_upto_region 7 with (refine storeV rfl (.tmp 10) (.tmp 43) rfl w5.heap.size o p rfl rfl hp 27 _ (heap_alloc_new w5 _) rfl ?_)
        clear hp
        generalize ((w5.alloc (.cells #[.int .i64 0, .string ⟨#[]⟩, .string ⟨#[]⟩, .string ⟨#[]⟩, .string ⟨#[]⟩, .string ⟨#[]⟩, .slice none 0 0] 27)).setRow w5.heap.size (cellsO o p).toArray) = W6 at HO6 HR6 HT6 HB6 HP6 ⊢
        generalize w5.heap.size = g10 at HO6 ⊢
        have KN := hI (nodesP o p W6 _ (fun b hb => hb.2.1) HP6.out (by have := HSM.out; omega))
        have hzz := HZ.out
        unfold Val7 at hzz
        unfold vO at KN
        rw [hzz] at KN
        clear hzz
        obtain ⟨m0, m1, m2, m3, m4, m5, m6⟩ := HO6.out.c
        go_wp2_with fail
        refine KN.out.mono ?_
        rintro e w7 ⟨rfl, hb⟩
        have HO7 := hI (HO6.out.keep hb)
        have HR7 := hI (HR6.out.keep hb)
        have HT7 := hI (HT6.out.keep hb)
        have HB7 := hI (HB6.out.trans (hb.mono HB6.out.size))
        have HP7 := hI (HP6.out.keep (S' := fun b => g + 1 ≤ b ∧ b < w7.heap.size ∧ (Value.slice A n cc).ownBlock ≠ some b ∧ sv.ownBlock ≠ some b) (fun b hb' => ⟨hb'.1, by have := hb.size; omega, hb'.2.2⟩) (fun b hb' => hb.block b hb'.2.1))
        clear m0 m1 m2 m3 m4 m5 m6 hb HO6 HR6 HT6 HB6 HP6 KN
        obtain ⟨m0, m1, m2, m3, m4, m5, m6⟩ := HO7.out.c
        have hal := hI (show Below w7.heap.size w7 (w7.alloc (.cells #[x0, x1, x2, x3, x4, x5, p] 27)) from Below.alloc (Below.refl _ _) (Nat.le_refl _) _)
        have hnw := hI (heap_alloc_new w7 (.cells #[x0, x1, x2, x3, x4, x5, p] 27))
        have HR8 := hI (HR7.out.keep hal.out)
        have HT8 := hI (HT7.out.keep hal.out)
        have HB8 := hI (HB7.out.trans (hal.out.mono HB7.out.size))
        have HP8 := hI (HP7.out.keep (S' := fun b => g + 1 ≤ b ∧ b < (w7.alloc (.cells #[x0, x1, x2, x3, x4, x5, p] 27)).heap.size ∧ (Value.slice A n cc).ownBlock ≠ some b ∧ sv.ownBlock ≠ some b) (fun b hb' => ⟨hb'.1, by have := hal.out.size; omega, hb'.2.2⟩) (fun b hb' => hal.out.block b hb'.2.1))
        have HS8 := hI (show g + 1 ≤ (w7.alloc (.cells #[x0, x1, x2, x3, x4, x5, p] 27)).heap.size from HR8.out.lt)
        go_wp2_with (at_builtin; refine appTwo1 rfl (.tmp 49) (.tmp 51) rfl rfl HT8.out o p x0 x1 x2 x3 x4 x5 HZ.out w7.heap.size 1 rfl hnw.out HP8.out HXL.out HS8.out ?_)
        intro v9 w9 ht9 hb9
        have HT9 := hI ht9
        have HR9 := hI (HR8.out.below hb9 (Nat.lt_succ_self _))
        have HB9 := hI (HB8.out.trans (hb9.mono (Nat.le_succ_of_le HWG.out)))
        clear m0 m1 m2 m3 m4 m5 m6 ht9 hb9 hal hnw HO7 HR7 HT7 HB7 HP7 HR8 HT8 HB8 HP8 HS8
        have hal := hI (show Below w9.heap.size w9 (w9.alloc (.cells #[.int .i64 tp] 3)) from Below.alloc (Below.refl _ _) (Nat.le_refl _) _)
        have hnw := hI (heap_alloc_new w9 (.cells #[.int .i64 tp] 3))
        have HR10 := hI (HR9.out.keep hal.out)
        have HT10 := hI (HT9.out.keep hal.out)
        have HB10 := hI (HB9.out.trans (hal.out.mono HB9.out.size))
        have HS10 := hI (show g + 1 ≤ (w9.alloc (.cells #[.int .i64 tp] 3)).heap.size from HR10.out.lt)
        have HPL : Hid (ps.length ≤ 100000) := by have := HXL.out; have := HLN.out; show _ ≤ _; omega
        go_wp2_with (at_builtin; refine appTwo2 rfl (.tmp 53) (.tmp 55) rfl rfl HT10.out tp w9.heap.size 1 rfl hnw.out HPL.out HS10.out ?_)
        intro v11 w11 ht11 hb11
        have HQ2 : Hid (allF (symL l cur) numK f2 ((fsts (xs ++ [(o, p)])).zip (ps ++ [tp])) r1 = (R, true)) := by
         show _ = _
         rw [zip_snoc HLN.out, ← zip_snoc HLN.out o undef tp]
         exact HQ.out
        have HT11 : Hid (RaR w w1 w11 g l lv cur R f0 v9 v11 (xs ++ [(o, p)]) (ps ++ [tp]) r1 f2) := ⟨HR10.out.below hb11 (Nat.lt_succ_self _), HB10.out.trans (hb11.mono (Nat.le_succ_of_le HWG.out)), ht11, HQ2.out, HPK.out.1, HPK.out.2.2, by have := HLN.out; simp only [List.length_append, List.length_cons, List.length_nil]; omega, by have := HLE.out; have := HPK.out.2.1; simp only [List.length_append, List.length_cons, List.length_nil] at *; omega⟩
        have hms : tkN g w11 < tkN g wo := by rw [HM.out, HT11.out.pr.tkN]; have := HPK.out.2.1; simp only [List.length_cons] at *; omega
        have HW7 := hI HPK.out.1
        clear ht11 hb11 hal hnw
        go_wp2_with fail
        go_roundw
        case rel =>
         cases r1 with
         | nil => exact absurd rfl HW7.out.ne
         | cons t2 r2 => exact ⟨_, _, t2, r2, f2, _, _, rfl, rfl, HT11⟩
        case measure => exact hms
theorem catchOn (g : Nat) (x y : Value) (e p : Int) (older : List PanicEntry) (w : World) (h : EB w g x y) : CallsD Tryz.prog 66 #[.pointer (some ⟨g, 0, none⟩)] (.panicking ({ v := errV e p, recovered := false } :: older)) w fun e' u' w' =>
 e' = .returned (.tuple #[]) ∧ u' = .panicking ({ v := errV e p, recovered := true } :: older) ∧ Cat w g e p w' := by
 refine callsD_of_wpS Tryz.func66 rfl fun c₀ cs hu => ?_
 apply wpS_region
 simp [wpOpsS, go_sem, recoverD, hu, Tryz.ntmps66]
 refine (reportedP e p w).mono ?_
 rintro e' w1 ⟨rfl, hb⟩
 have h1 := h.keep hb
 have c0 := h1.c0
 have c1 := h1.c1
 have f0 : w1.frozen? ⟨g, 0, none⟩ = false := h1.fr
 have f1 : w1.frozen? ⟨g, 1, none⟩ = false := h1.fr
 simp [storeCells, go_sem, c0, c1, f0, f1, bodyPostS, results, Tryz.results66]
 exact Cat.mk_ h hb
theorem idleOn (g : Nat) (x y : Value) (w : World) (h : EB w g x y) : CallsD Tryz.prog 66 #[.pointer (some ⟨g, 0, none⟩)] .returning w fun e' u' w' =>
 e' = .returned (.tuple #[]) ∧ u' = .returning ∧ Cat w g 0 0 w' := by
 refine callsD_of_wpS Tryz.func66 rfl fun c₀ cs hu => ?_
 apply wpS_region
 simp [wpOpsS, go_sem, recoverD, hu, Tryz.ntmps66]
 refine (reportedN w).mono ?_
 rintro e' w1 ⟨rfl, hb⟩
 have h1 := h.keep hb
 have c0 := h1.c0
 have c1 := h1.c1
 have f0 : w1.frozen? ⟨g, 0, none⟩ = false := h1.fr
 have f1 : w1.frozen? ⟨g, 1, none⟩ = false := h1.fr
 simp [storeCells, go_sem, c0, c1, f0, f1, bodyPostS, results, Tryz.results66]
 exact ⟨.returning, by cases c₀; simp_all, rfl, Cat.mk_ h hb⟩
theorem ObB.run {w : World} {g : Nat} {x0 x1 x2 x3 x4 x5 x6 : Value} (hg : ObB w g #[x0, x1, x2, x3, x4, x5, x6]) : (loadVar 27 ⟨g, 0, none⟩).run Tryz.prog w = .ok (.agg #[x0, x1, x2, x3, x4, x5, x6]) w :=
 run_loadVar_row w g 27 27 #[x0, x1, x2, x3, x4, x5, x6] (0, 0) _ hg Tryz.underlying27 rfl (by kernel_rfl)
theorem resCC {fn : Func} {r0 r1 : Tmp} {tmps : Array Value} {w : World} {g k : Nat} {x0 x1 x2 x3 x4 x5 x6 u v : Value} (h : fn.results = #[.cell r0 27, .cell r1 30]) (h0 : tmps.getD r0 undef = .pointer (some ⟨g, 0, none⟩)) (h1 : tmps.getD r1 undef = .pointer (some ⟨k, 0, none⟩))
 (hx : ObB w g #[x0, x1, x2, x3, x4, x5, x6]) (hg : EB w k u v) : (results fn tmps).run Tryz.prog w = .ok (.tuple #[.agg #[x0, x1, x2, x3, x4, x5, x6], .agg #[u, v]]) w := by
 have h0' : tmps[r0]?.getD undef = .pointer (some ⟨g, 0, none⟩) := by simpa using h0
 have h1' : tmps[r1]?.getD undef = .pointer (some ⟨k, 0, none⟩) := by simpa using h1
 simp [results, h, h0', h1', asAddr, hg.run, hx.run]
def oneS (l : List Sy.Pg) (cur s : ByteArray) : Except (Int × Int) Ob := match readS l cur s with
 | .error x => .error x
 | .ok [] => .error (11, s.size)
 | .ok [x] => .ok x.1
 | .ok (_ :: y :: _) => .error (12, y.2)
def OutOn (w : World) (R : Except (Int × Int) Ob) (e : Ending) (w' : World) : Prop := Below w.heap.size w w' ∧ match R with
 | .ok o => ∃ p, e = .returned (.tuple #[vO o p, .agg #[.int .i64 0, .int .i64 0]]) ∧ Pair w' (fun b => w.heap.size ≤ b ∧ b < w'.heap.size) o p
 | .error x => e = .returned (.tuple #[.agg #[.int .i64 0, .string ⟨#[]⟩, .string ⟨#[]⟩, .string ⟨#[]⟩, .string ⟨#[]⟩, .string ⟨#[]⟩, .slice none 0 0], .agg #[.int .i64 x.1, .int .i64 x.2]])
theorem own_cells {w : World} {B : Nat} {e : TypeId} {z n : Nat} {v : Value} {ys : List Value} (h : w.ownsRow B e z v n ys) (hn : 0 < n) : ∃ b c, v = .slice (some ⟨b, 0, none⟩) n c ∧ n ≤ c ∧ c ≤ maxLen ∧ B ≤ b ∧ b < w.heap.size ∧ ∀ j u, ys[j]? = some u → w.cell? ⟨b, j, none⟩ = some u := by
 rcases h.2 with ⟨rfl, h0⟩ | ⟨gb, cap, cur', rfl, hb, hh, hn', hm, hcs, hcur⟩
 · omega
 · refine ⟨gb, cap, rfl, ?_, ?_, hb, Sy.blk_ltY hh, fun j u hj => ?_⟩
   · omega
   · omega
   · rw [cell_of_row _ _ _ _ _ _ hh]
     rw [← hcur] at hj
     rw [List.getElem?_take] at hj
     split at hj
     · simpa using hj
     · cases hj
theorem EB.row {W : World} {g b : Nat} {x y : Value} (h : EB W g x y) (hb : g ≠ b) (cs : Array Value) : EB (W.setRow b cs) g x y := (setRow_other _ _ _ _ hb).trans h
theorem onePr (s cur : ByteArray) (l : List Sy.Pg) (lv : Value) (w : World) (hl : Sy.PgV w l lv) (hpb : PgB l) (hn : SmS s) : Calls Tryz.prog 14 #[lv, .string cur, .string s] w (OutOn w (oneS l cur s)) := by
 have hmf : ∀ (fn : Fn) (first cap : Array Value) (w : World), (Instr.makeFunc fn first cap).run Tryz.prog w = .ok (.func fn first cap) w := fun _ _ _ _ => rfl
 have T0 : Hid (EB ((w.alloc (.cells #[.int .i64 0, .string ⟨#[]⟩, .string ⟨#[]⟩, .string ⟨#[]⟩, .string ⟨#[]⟩, .string ⟨#[]⟩, .slice none 0 0] 27)).alloc (.cells #[.int .i64 0, .int .i64 0] 30)) (w.heap.size + 1) (.int .i64 0) (.int .i64 0)) := heap_alloc2_new w _ _
 have B0 : Hid (ObB ((w.alloc (.cells #[.int .i64 0, .string ⟨#[]⟩, .string ⟨#[]⟩, .string ⟨#[]⟩, .string ⟨#[]⟩, .string ⟨#[]⟩, .slice none 0 0] 27)).alloc (.cells #[.int .i64 0, .int .i64 0] 30)) w.heap.size #[.int .i64 0, .string ⟨#[]⟩, .string ⟨#[]⟩, .string ⟨#[]⟩, .string ⟨#[]⟩, .string ⟨#[]⟩, .slice none 0 0]) := heap_old1 w _ _
 have HB := hI (show Below w.heap.size w ((w.alloc (.cells #[.int .i64 0, .string ⟨#[]⟩, .string ⟨#[]⟩, .string ⟨#[]⟩, .string ⟨#[]⟩, .string ⟨#[]⟩, .slice none 0 0] 27)).alloc (.cells #[.int .i64 0, .int .i64 0] 30)) from al2 w _ _)
 have KS := hI (readAllP s cur l lv ((w.alloc (.cells #[.int .i64 0, .string ⟨#[]⟩, .string ⟨#[]⟩, .string ⟨#[]⟩, .string ⟨#[]⟩, .string ⟨#[]⟩, .slice none 0 0] 27)).alloc (.cells #[.int .i64 0, .int .i64 0] 30)) (hl.keep HB.out) hpb hn)
 clear hl hpb hn
 unfold oneS
 cases hR : readS l cur s with
 | error x =>
  rw [hR] at KS
  obtain ⟨x, p⟩ := x
  clear hR
  go_enter_defers Tryz.func14, Tryz.ntmps14
  go_wp2_with fail
  refine KS.out.mono ?_
  rintro e w2 ⟨hb, he⟩
  replace he : e = _ := he
  subst he
  have HB2 := hI (chain5 HB.out hb)
  have B2 := hI (B0.out.keep hb)
  refine leaves_cons (f := 66) (args := #[.pointer (some ⟨w.heap.size + 1, 0, none⟩)]) (by simp) (by simp [go_sem]) ?_
  refine (catchOn (w.heap.size + 1) _ _ x p [] w2 (T0.out.keep hb)).mono ?_
  rintro e u' w3 ⟨rfl, rfl, hC⟩
  exact leaves_end (resCC rfl rfl rfl (B2.out.but hC.2 (by omega)) hC.1) ⟨HB2.out.trans (hC.2.below (Nat.le_succ _) HB2.out.size), rfl⟩
 | ok os =>
  rw [hR] at KS
  clear hR
  match os with
  | [] =>
   show Calls _ _ _ _ (OutOn w (.error (11, (s.size : Int))))
   go_enter_defers Tryz.func14, Tryz.ntmps14
   go_wp2_with fail
   refine KS.out.mono ?_
   rintro e w2 ⟨hb, v, sv, xs, ps, rfl, ht, hos, hln⟩
   obtain rfl : xs = [] := by
    cases xs with
    | nil => rfl
    | cons x xs => cases ps with
     | nil => simp at hln
     | cons p ps => simp [fsts] at hos
   obtain ⟨A, c, rfl⟩ := ht.lenv
   have HB2 := hI (chain5 HB.out hb)
   have B2 := hI (B0.out.keep hb)
   have T2 := hI (T0.out.keep hb)
   clear ht hos hln hb
   go_wp2_with fail
   refine (reportB 11 _ _).mono ?_
   rintro e w2 ⟨rfl, rfl⟩
   refine leaves_cons (f := 66) (args := #[.pointer (some ⟨w.heap.size + 1, 0, none⟩)]) (by simp) (by simp [go_sem]) ?_
   refine (catchOn (w.heap.size + 1) _ _ 11 (s.size : Int) [] w2 T2.out).mono ?_
   rintro e u' w3 ⟨rfl, rfl, hC⟩
   exact leaves_end (resCC rfl rfl rfl (B2.out.but hC.2 (by omega)) hC.1) ⟨HB2.out.trans (hC.2.below (Nat.le_succ _) HB2.out.size), rfl⟩
  | x :: y :: os =>
   show Calls _ _ _ _ (OutOn w (.error (12, y.2)))
   go_enter_defers Tryz.func14, Tryz.ntmps14
   go_wp2_with fail
   refine KS.out.mono ?_
   rintro e w2 ⟨hb, v, sv, xs, ps, rfl, ht, hos, hln⟩
   obtain ⟨p1, ps', rfl⟩ : ∃ p1 ps', ps = p1 :: y.2 :: ps' := by
    cases xs with
    | nil => simp [fsts] at hos
    | cons a xs => cases ps with
     | nil => simp at hln
     | cons p ps => cases xs with
      | nil => simp [fsts] at hos
      | cons b xs => cases ps with
       | nil => simp at hln
       | cons q ps =>
        simp [fsts] at hos
        exact ⟨p, ps, by rw [hos.2.1]⟩
   obtain ⟨A, c, rfl⟩ := ht.lenv
   obtain ⟨sb, sc, rfl, _, _, _, _, hcell⟩ := own_cells ht.st (by simp)
   have s1 := hcell 1 (.int .i64 y.2) rfl
   have HB2 := hI (chain5 HB.out hb)
   have B2 := hI (B0.out.keep hb)
   have T2 := hI (T0.out.keep hb)
   obtain ⟨n, hn⟩ : ∃ n, xs.length = n := ⟨_, rfl⟩
   obtain ⟨m, hm⟩ : ∃ m, (p1 :: y.2 :: ps').length = m := ⟨_, rfl⟩
   have hm2 : 2 ≤ m := by rw [← hm]; simp
   rw [hn, hm] at hln
   rw [hn, hm]
   have e1 : ((n : Int) == 0) = false := by rw [beq_eq_false_iff_ne]; omega
   have e2 : (1 : Int) < (n : Int) := by omega
   have e3 : (1 : Int) < (m : Int) := by omega
   clear ht hos hb hcell hn hm
   go_wp2_with fail
   refine (reportB 12 _ _).mono ?_
   rintro e w2 ⟨rfl, rfl⟩
   refine leaves_cons (f := 66) (args := #[.pointer (some ⟨w.heap.size + 1, 0, none⟩)]) (by simp) (by simp [go_sem]) ?_
   refine (catchOn (w.heap.size + 1) _ _ 12 y.2 [] w2 T2.out).mono ?_
   rintro e u' w3 ⟨rfl, rfl, hC⟩
   exact leaves_end (resCC rfl rfl rfl (B2.out.but hC.2 (by omega)) hC.1) ⟨HB2.out.trans (hC.2.below (Nat.le_succ _) HB2.out.size), rfl⟩
  | [x] =>
   show Calls _ _ _ _ (OutOn w (.ok x.1))
   obtain ⟨o, q⟩ := x
   go_enter_defers Tryz.func14, Tryz.ntmps14
   go_wp2_with fail
   refine KS.out.mono ?_
   rintro e w2 ⟨hb, v, sv, xs, ps, rfl, ht, hos, hln⟩
   obtain ⟨p, rfl⟩ : ∃ p, xs = [(o, p)] := by
    cases xs with
    | nil => simp [fsts] at hos
    | cons a xs => cases ps with
     | nil => simp at hln
     | cons p ps => cases xs with
      | nil =>
       simp [fsts] at hos
       obtain ⟨ao, ap⟩ := a
       obtain ⟨rfl, rfl⟩ := hos
       exact ⟨ap, rfl⟩
      | cons b xs => cases ps with
       | nil => simp at hln
       | cons q ps => simp [fsts] at hos
   obtain ⟨gb, c, rfl, hc1, hc2, hbb, hlt, hcell⟩ := own_cells ht.own (by simp)
   obtain ⟨x0, x1, x2, x3, x4, x5, hz⟩ := cells7 o p
   have hcell' : ∀ j u, [x0, x1, x2, x3, x4, x5, p][j]? = some u → w2.cell? ⟨gb, j, none⟩ = some u := fun j u hj => hcell j u (by simp only [flatC, List.flatMap_cons, List.flatMap_nil, List.append_nil, hz]; exact hj)
   have l0 := hcell' 0 _ rfl
   have l1 := hcell' 1 _ rfl
   have l2 := hcell' 2 _ rfl
   have l3 := hcell' 3 _ rfl
   have l4 := hcell' 4 _ rfl
   have l5 := hcell' 5 _ rfl
   have l6 := hcell' 6 _ rfl
   have hp := ht.pairs (o, p) (by simp)
   have ev := hI (show Value.agg #[x0, x1, x2, x3, x4, x5, p] = vO o p from by unfold vO; rw [hz])
   have HP := hI (show Pair w2 (fun b => w.heap.size + 2 ≤ b ∧ b < w2.heap.size) o p from hp.more fun b hb => ⟨by have := hb.1; simp at this; omega, hb.2.1⟩)
   have HB2 := hI (chain5 HB.out hb)
   have B2 := hI (B0.out.keep hb)
   have T2 := hI ((T0.out.keep hb).row (b := w.heap.size) (by omega) (cellsO o p).toArray)
   have B3 := hI (show ObB (w2.setRow w.heap.size (cellsO o p).toArray) w.heap.size #[x0, x1, x2, x3, x4, x5, p] from (setRow_heap _ _ _ _ _ _ B2.out).trans (by rw [hz]))
   have c0 := T2.out.c0
   have c1 := T2.out.c1
   have f0 : (w2.setRow w.heap.size (cellsO o p).toArray).frozen? ⟨w.heap.size + 1, 0, none⟩ = false := T2.out.fr
   have f1 : (w2.setRow w.heap.size (cellsO o p).toArray).frozen? ⟨w.heap.size + 1, 1, none⟩ = false := T2.out.fr
   clear ht hos hln hb hcell hcell' hp hz
   go_wp2_with (refine storeV rfl (.tmp 6) (.tmp 33) rfl w.heap.size o p rfl ev.out HP.out 27 _ B2.out rfl ?_)
   clear c0 c1 f0 f1 l0 l1 l2 l3 l4 l5 l6
   have HB3 := hI (below_setRowO HB2.out (Nat.le_refl _) (cellsO o p).toArray)
   have HP3 := hI (show Pair (w2.setRow w.heap.size (cellsO o p).toArray) (fun b => w.heap.size + 2 ≤ b ∧ b < (w2.setRow w.heap.size (cellsO o p).toArray).heap.size) o p from HP.out.keep (fun b hb => ⟨hb.1, by rw [setRow_size]; exact hb.2⟩) (fun b hb => setRow_other _ _ _ _ (by omega)))
   generalize w2.setRow w.heap.size (cellsO o p).toArray = W3 at B3 T2 HB3 HP3 ⊢
   refine leaves_cons (f := 66) (args := #[.pointer (some ⟨w.heap.size + 1, 0, none⟩)]) (by simp) (by simp [go_sem]) ?_
   refine (idleOn (w.heap.size + 1) _ _ _ (T2.out.cell2 _ _)).mono ?_
   rintro e u' w3 ⟨rfl, rfl, hC⟩
   have hbt := ((But.set W3 0 (.int .i64 0)).trans (But.set _ 1 (.int .i64 0))).trans hC.2
   refine leaves_end (resCC rfl rfl rfl (B3.out.but hbt (by omega)) hC.1) ⟨HB3.out.trans (hbt.below (Nat.le_succ _) HB3.out.size), p, ?_, HP3.out.keep (fun b hb => ⟨by omega, by have := hbt.size; omega⟩) (fun b hb => hbt.block b hb.2 (by omega))⟩
   rw [← ev.out]
def RetP5 (w : World) (l : List Sy.Pg) (e : Ending) (w' : World) : Prop := ∃ x, e = .returned x ∧ Sy.PgV w' l x ∧ Below w.heap.size w w'
def initM5 : List Sy.Pg := [(⟨#[108, 105, 115, 112]⟩, [])]
theorem iniP5 (w : World) : Sy.PgV (w.alloc (.cells #[.string ⟨#[108, 105, 115, 112]⟩, .slice none 0 0] 96)) initM5 (.slice (some ⟨w.heap.size, 0, none⟩) 1 1) :=
 Sy.PgV.of_row (row := [.string ⟨#[108, 105, 115, 112]⟩, .slice none 0 0]) (l := initM5) (heap_alloc_new w _) (Nat.le_refl _) (by unfold maxLen; omega) (fun i hi => by
  have e : i = 0 := by simp [initM5] at hi; omega
  subst e
  exact ⟨rfl, _, rfl, Sy.SyV.nil _⟩)
theorem initialR5 (w : World) : Calls Tryz.prog 65 #[] w (RetP5 w initM5) := by
 go_enter Tryz.func65, Tryz.ntmps65
 go_wp2_with fail
 go_ret
 exact ⟨_, rfl, iniP5 w, Below.alloc (Below.refl _ _) (Nat.le_refl _) _⟩
theorem flatT_at : ∀ (ts : List Tk) (i : Nat) (hi : i < ts.length) (k : Nat), k < 5 → (flatT ts)[i * 5 + k]? = (tkC ts[i]).toList[k]?
 | t :: ts, 0, hi, k, hk => by
  rw [flatT_cons, Nat.zero_mul, Nat.zero_add, List.getElem?_append_left (by show k < 5; exact hk)]; rfl
 | t :: ts, i + 1, hi, k, hk => by
  rw [flatT_cons, List.getElem?_append_right (by show 5 ≤ _; omega)]
  have := flatT_at ts i (by simpa using hi) k hk
  rw [show (i + 1) * 5 + k - (tkC t).toList.length = i * 5 + k from by show _ - 5 = _; omega, this]; rfl
theorem TkV.at {w : World} {B : Nat} {ts : List Tk} {v : Value} (h : TkV w B ts v) (i : Nat) (hi : i < ts.length) : ∃ b o c, v = .slice (some ⟨b, o, none⟩) ts.length c ∧ b < w.heap.size ∧
 w.cell? ⟨b, o + i * 5, none⟩ = some (.int .i64 ts[i].k) ∧ w.cell? ⟨b, o + i * 5 + 1, none⟩ = some (.int .i64 ts[i].p) ∧ w.cell? ⟨b, o + i * 5 + 2, none⟩ = some (.string (BA ts[i].pkg)) ∧ w.cell? ⟨b, o + i * 5 + 3, none⟩ = some (.string (BA ts[i].txt)) ∧ w.cell? ⟨b, o + i * 5 + 4, none⟩ = some (.string (BA ts[i].den)) := by
 obtain ⟨A, c, rfl, h2, h3, h4⟩ := h
 obtain ⟨b, o, rfl, h6, h7⟩ := h4 (by omega)
 have e : ∀ k, k < 5 → ∀ u, (tkC ts[i]).toList[k]? = some u → w.cell? ⟨b, o + i * 5 + k, none⟩ = some u := fun k hk u hj => by
  have := h7 (i * 5 + k) u (by rw [flatT_at ts i hi k hk]; exact hj)
  rwa [← Nat.add_assoc] at this
 exact ⟨b, o, c, rfl, h6.2, e 0 (by decide) _ rfl, e 1 (by decide) _ rfl, e 2 (by decide) _ rfl, e 3 (by decide) _ rfl, e 4 (by decide) _ rfl⟩

namespace Sy
def RetD (w : World) (r : List Pg × Int) (e : Ending) (w' : World) : Prop := ∃ x, e = .returned (.tuple #[x, .int .i64 r.2]) ∧ PgV w' r.1 x ∧ Below w.heap.size w w'
theorem retTT {fn : Func} {r0 r1 : Tmp} {tmps : Array Value} {w : World} {u v : Value} {Q : Ending → World → Prop} (h : fn.results = #[.tmp r0, .tmp r1]) (h0 : tmps.getD r0 undef = u) (h1 : tmps.getD r1 undef = v) (hQ : Q (.returned (.tuple #[u, v])) w) : bodyPost Tryz.prog fn Q Exit.ret ⟨tmps, []⟩ w := by
 subst h0
 subst h1
 exact bodyPost_ret (v := .tuple #[tmps.getD r0 undef, tmps.getD r1 undef]) (by simp [results, h]) rfl hQ
theorem PgV.snoc {W : World} {l : List Pg} {cs : List Value} {n : ByteArray} {q : List Sy} {u : Value} {g c : Nat} (hg : W.heap[g]? = some (.cells (cs ++ [.string n, u]).toArray 96 (0, 0))) (hcl : cs.length = l.length * 2)
 (hcs : ∀ i (hi : i < l.length), cs[i * 2]? = some (.string l[i].1) ∧ ∃ u, cs[i * 2 + 1]? = some u ∧ SyV W l[i].2 u) (hu : SyV W q u) (hc : l.length + 1 ≤ c) (hc' : c ≤ maxLen) :
 PgV W (l ++ [(n, q)]) (.slice (some ⟨g, 0, none⟩) (l.length + 1) c) := by
 have hlen : (l ++ [(n, q)]).length = l.length + 1 := by simp
 have := PgV.of_row (W := W) (g := g) (c := c) (row := cs ++ [.string n, u]) (l := l ++ [(n, q)]) hg (by rw [hlen]; exact hc) hc' (fun i hi => by
  rw [hlen] at hi
  by_cases h : i < l.length
  · obtain ⟨h1, u', h2, h3⟩ := hcs i h
    rw [List.getElem?_append_left (by omega), List.getElem?_append_left (by omega), List.getElem_append_left h]
    exact ⟨h1, u', h2, h3⟩
  · have e : i = l.length := by omega
    subst e
    rw [List.getElem?_append_right (by omega), List.getElem?_append_right (by omega), hcl, Nat.sub_self, show l.length * 2 + 1 - l.length * 2 = 1 from by omega]
    have e2 : (l ++ [(n, q)])[l.length]'(by omega) = (n, q) := by simp
    rw [e2]
    exact ⟨rfl, u, rfl, hu⟩)
 rw [hlen] at this
 exact this
end Sy

theorem EB.store {ops : Array Oper} {rest : List Oper} {o : Oper} {a : Act} {w : World} {Q : Exit → Act → World → Prop} (x y : Operand) (ho : o.op = .store 30 x y) (hgd : o.guard = none)
 (g : Nat) (u v : Int) (u0 v0 : Value) (hx : a.eval x = .pointer (some ⟨g, 0, none⟩)) (hy : a.eval y = .agg #[.int .i64 u, .int .i64 v]) (hg : EB w g u0 v0)
 (h : wpList Tryz.prog ops Q rest (a.put o.dst undef) (w.setRow g #[.int .i64 u, .int .i64 v])) : wpList Tryz.prog ops Q (o :: rest) a w :=
 wpList_store_row hgd 30 x y ho g #[.int .i64 u, .int .i64 v] hx hy 30 #[u0, v0] hg (by kernel_rfl) rfl (by simp; exact ⟨rfl, rfl⟩) h
def NuF (R : Option (List UInt8 × List UInt8)) (e : Ending) : Prop := match R with
 | some q => e = .returned (.tuple #[.string (BA q.1), .string (BA q.2), .bool true])
 | none => e = .returned (.tuple #[.string ⟨#[]⟩, .string ⟨#[]⟩, .bool false])
def NuP (R : Option (List UInt8 × List UInt8)) (w : World) (e : Ending) (w' : World) : Prop := NuF R e ∧ ∃ n, w' = w.drewN n
def NuA (s : ByteArray) (i : Nat) (X D : List UInt8) (k : Nat) : Prop := (s.extract i k).data.toList ++ ((LA s).drop k).takeWhile digU = X ∧ ((LA s).drop k).dropWhile digU = D

def erX {α : Type} : Sc α → Int
 | .ok _ _ => 0
 | .bad x _ => x
def erP {α : Type} : Sc α → Int
 | .ok _ _ => 0
 | .bad _ p => p
def SymB (p : Int) (q b r : List UInt8) (SN SR : Sc Tk) : Prop := (SR = .ok ⟨6, p, q, b, []⟩ r ∧ erX SN = 0 ∧ erP SN = 0) ∨ SR = .bad (erX SN) (erP SN)










def tokR : Except (Int × Int) (List Tk) → List Tk
 | .ok ts => ts
 | .error _ => []
def errR {α : Type} : Except (Int × Int) α → Int × Int
 | .ok _ => (0, 0)
 | .error x => x
/-- The call returned this text; what was there before stands. -/
def RetTU (w : World) (s : ByteArray) (e : Ending) (w' : World) : Prop := e = .returned (.string s) ∧ Below w.heap.size w w'
/-- A text and a code. -/
def RetTE (w : World) (s : ByteArray) (n : Int) (e : Ending) (w' : World) : Prop := e = .returned (.tuple #[.string s, .int .i64 n]) ∧ Below w.heap.size w w'
theorem below_al (w : World) (x : Obj) : Below w.heap.size w (w.alloc x) := Below.alloc (Below.refl _ _) (Nat.le_refl _) _
theorem existsP (l : List Sy.Pg) (v : Value) (cur : ByteArray) (w : World) (hv : Sy.PgV w l v) (hl : l.length ≤ 1000000) :
 Calls Tryz.prog 119 #[v, .string cur] w (RetB w (Sy.findM l cur).isSome) := by
 have CF := Sy.findY l v cur w hv hl
 clear hv
 cases hf : Sy.findM l cur with
 | none =>
  rw [hf] at CF
  replace CF := qh9 CF
  clear hf
  go_enter Tryz.func119, Tryz.ntmps119
  go_wp2_with fail
  refine CF.out.mono ?_
  rintro e w1 ⟨rfl, hb⟩
  have HB := qh9 hb
  clear hb CF
  go_wp2
  go_ret
  exact ⟨rfl, chain2 HB.out (below_al _ _) (Nat.le_refl _)⟩
 | some p =>
  rw [hf] at CF
  replace CF := qh9 CF
  clear hf
  go_enter Tryz.func119, Tryz.ntmps119
  go_wp2_with fail
  refine CF.out.mono ?_
  rintro e w1 ⟨u, rfl, hu, hb⟩
  obtain ⟨A1, cc1, rfl, _, _, _⟩ := hu
  have HB := qh9 hb
  clear hb CF
  go_wp2
  go_ret
  exact ⟨rfl, chain2 HB.out (below_al _ _) (Nat.le_refl _)⟩
theorem scanS_bad {s : ByteArray} {x : Int × Int} (h : scanS s = .error x) : x.1 ≠ 0 := by
 unfold scanS at h
 split at h
 · injection h with h; rw [← h]; decide
 · exact toksL_bad okP numP sizP _ _ _ _ (Nat.le_refl _) h
theorem scanS_ne {s : ByteArray} {ts : List Tk} (h : scanS s = .ok ts) : ts ≠ [] := by
 unfold scanS at h
 split at h
 · cases h
 · exact toksL_ne okP numP sizP h
theorem isWordP (p n : ByteArray) (w : World) (hz : p.size + n.size ≤ 1000) : Calls Tryz.prog 175 #[.string p, .string n] w (RetB w (headSym (scanS (p ++ n)) (LA n))) := by
 have CT := tokensP (p ++ n) w (by rw [ByteArray.size_append]; omega)
 obtain ⟨R, hR⟩ : ∃ R, scanS (p ++ n) = R := ⟨_, rfl⟩
 rw [hR] at CT ⊢
 cases R with
 | error x =>
  have hx := scanS_bad hR
  obtain ⟨x1, x2⟩ := x
  replace hx : ¬ x1 = 0 := hx
  have hq : (x1 == 0) = false := by rw [beq_eq_false_iff_ne]; exact hx
  replace CT := qh9 CT
  clear hR hx
  go_enter Tryz.func175, Tryz.ntmps175
  go_wp2_with fail
  refine CT.out.mono ?_
  rintro e w1 ⟨hb, rfl⟩
  have HB := qh9 hb
  clear hb CT
  go_wp2
  go_ret
  exact ⟨rfl, chain2 HB.out (below_al _ _) (Nat.le_refl _)⟩
 | ok ts =>
  cases ts with
  | nil => exact absurd rfl (scanS_ne hR)
  | cons t ts =>
   replace CT := qh9 CT
   clear hR
   have hv : headSym (.ok (t :: ts)) (LA n) = ((t.k == 6) && ((BA t.txt).toList == n.toList)) := by
    show (decide (t.k = 6) && (t.txt == LA n)) = _
    congr 1
    rw [Bool.eq_iff_iff]
    simp only [beq_iff_eq, Lib.toList_data]
    exact Iff.rfl
   rw [hv]
   clear hv
   go_enter Tryz.func175, Tryz.ntmps175
   go_wp2_with fail
   refine CT.out.mono ?_
   rintro e w1 ⟨hb, v, rfl, hT⟩
   have HB := qh9 (chain2 hb (below_al w1 (.cells #[.int .i64 0, .int .i64 0] 30)) (Nat.le_refl _))
   obtain ⟨b, o, c, rfl, hlt, k0, _, _, k3, _⟩ := (hT.keep (below_al w1 (.cells #[.int .i64 0, .int .i64 0] 30))).at 0 (by simp)
   have g0 := heap_alloc_new w1 (.cells #[.int .i64 0, .int .i64 0] 30)
   simp only [List.getElem_cons_zero, Nat.zero_mul, Nat.add_zero] at k0 k3
   have hl0 : (0 : Int) < (((t :: ts).length : Nat) : Int) := by rw [List.length_cons]; omega
   clear hb CT hT
   go_upto_region 2 with fail
   generalize w1.alloc (.cells #[.int .i64 0, .int .i64 0] 30) = W at HB k0 k3 g0 ⊢
   have r0 : W.cell? ⟨w1.heap.size, 0, none⟩ = some (.int .i64 0) := by rw [cell_of_row _ _ _ _ _ _ g0]; rfl
   clear g0
   generalize (t :: ts).length = L at hl0 ⊢
   obtain ⟨tk, tp, tq, tt, td⟩ := t
   simp only at k0 k3 ⊢
   by_cases h6 : tk = 6
   · subst h6
     go_wp2
     go_ret
     exact ⟨rfl, HB.out⟩
   · have hq : (tk == 6) = false := by rw [beq_eq_false_iff_ne]; exact h6
     rw [hq]
     go_wp2
     go_ret
     exact ⟨rfl, HB.out⟩
end Go.Proofs.YtlocnkobancjmaaGreatDoor
