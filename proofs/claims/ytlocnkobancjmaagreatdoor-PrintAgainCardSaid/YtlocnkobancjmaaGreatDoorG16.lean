import Derived.Test.YtlocnkobancjmaaGreatDoorAl
import Derived.Test.YtlocnkobancjmaaGreatDoorG14
import Derived.Test.YtlocnkobancjmaaGreatDoorG15
import Derived.Recover
namespace Go.Proofs.YtlocnkobancjmaaGreatDoor
open Go Go.RowKit
set_option linter.unusedVariables false
set_option maxHeartbeats 32000000
set_option maxRecDepth 100000
def flatT (ts : List Tk) : List Value := ts.flatMap fun t => (tkC t).toList
theorem flatT_snoc (ts : List Tk) (t : Tk) : flatT (ts ++ [t]) = flatT ts ++ (tkC t).toList := by unfold flatT; simp
def OwnT (w : World) (B : Nat) (v : Value) (ts : List Tk) : Prop := w.ownsRow B 157 5 v ts.length (flatT ts)
theorem OwnT.nil_ (w : World) (B : Nat) : OwnT w B (.slice none 0 0) [] := ⟨rfl, .inl ⟨rfl, rfl⟩⟩
theorem OwnT.move {w w' : World} {B : Nat} {v : Value} {ts : List Tk} (h : OwnT w B v ts) (hk : ∀ k, B ≤ k → k < w.heap.size → w'.heap[k]? = w.heap[k]?) : OwnT w' B v ts := by
 refine ⟨h.1, ?_⟩
 rcases h.2 with hn | ⟨g, cap, cur, rfl, hb, hh, h2⟩
 · exact .inl hn
 · exact .inr ⟨g, cap, cur, rfl, hb, (hk g hb (Sy.blk_ltY hh)).trans hh, h2⟩
theorem OwnT.keep {w w' : World} {B : Nat} {v : Value} {ts : List Tk} (h : OwnT w B v ts) (hb : Below w.heap.size w w') : OwnT w' B v ts := h.move fun k _ hk => hb.block k hk
theorem OwnT.but {w w' : World} {B g : Nat} {v : Value} {ts : List Tk} (h : OwnT w B v ts) (hb : But g w w') (hg : g < B) : OwnT w' B v ts := h.move fun k h1 hk => hb.block k hk (by omega)
structure KpT (B : Nat) (w w' : World) : Prop where
 bel : Below B w w'
 keep : ∀ k, k < w.heap.size → (∀ cur fr, w.heap[k]? ≠ some (.cells cur 157 fr)) → w'.heap[k]? = w.heap[k]?
theorem infoT : ∃ i, Tryz.prog.info? 157 = some i ∧ i.zero = some (.agg #[.int .i64 0, .int .i64 0, .string ⟨#[]⟩, .string ⟨#[]⟩, .string ⟨#[]⟩]) ∧ i.size = 5 ∧ i.bytes = 64 := Sy.info_ofY (P := Tryz.prog) (by kernel_rfl)
theorem cell_row5 {w : World} {g : Nat} {c : Array Value} {t : TypeId} (hg : w.heap[g]? = some (.cells c t (0, 0))) : ∀ j u, c.toList[j]? = some u → w.cell? ((⟨g, 0, none⟩ : Addr).add j) = some u := by
 intro j u hj
 have e : (Addr.add ⟨g, 0, none⟩ j) = ⟨g, j, none⟩ := by
  unfold Addr.add
  split
  · rename_i h; rw [h]
  · simp
 rw [e, cell_of_row _ _ _ _ _ _ hg]
 simpa using hj
theorem appTok {ops : Array Oper} {rest : List Oper} {o : Oper} {a : Act} {w : World} {Q : Exit → Act → World → Prop} (hgd : o.guard = none) (sl x : Operand)
 (ho : o.op = .call { callee := .builtin .append, args := #[sl, x], argTypes := #[151, 151] }) {B : Nat} {v : Value} {ts : List Tk} (hs : a.eval sl = v) (hown : OwnT w B v ts) (t : Tk) (g c : Nat) (hx : a.eval x = .slice (some ⟨g, 0, none⟩) 1 c)
 (hg : w.heap[g]? = some (.cells (tkC t) 157 (0, 0))) (hl : ts.length ≤ 100000) (hB : B ≤ w.heap.size)
 (h : ∀ v' w', OwnT w' B v' (ts ++ [t]) → KpT B w w' → wpList Tryz.prog ops Q rest (a.put o.dst v') w') : wpList Tryz.prog ops Q (o :: rest) a w := by
 obtain ⟨i0, hi, hz0, hz1, hz2⟩ := infoT
 refine wpList_append_own w hgd sl x 151 ho B 157 i0 _ 5 64 Tryz.underlying151 hi hz0 hz1 hz2 rfl (by decide) v ts.length (flatT ts) hs hown ⟨g, 0, none⟩ 1 c (tkC t).toList hx rfl (cell_row5 hg) (fun u hu => ?_) (by unfold maxLen; omega) (by omega) hB ?_
 · simp [tkC] at hu
   rcases hu with rfl | rfl | rfl | rfl | rfl <;> rfl
 · intro v' w' h1 h2 _
   refine h v' w' ?_ ⟨(Below.refl B w).grown h2 hB (fun k hk => ?_), fun k hk hn => h2.block k hk ?_⟩
   · show w'.ownsRow B 157 5 v' (ts ++ [t]).length (flatT (ts ++ [t]))
     rw [flatT_snoc, List.length_append]
     exact h1
   · rcases hown.2 with ⟨rfl, _⟩ | ⟨g', cap, cur, rfl, hb, _⟩
     · cases hk
     · injection hk with hk; exact hk ▸ hb
   · intro e
     rcases hown.2 with ⟨rfl, _⟩ | ⟨g', cap, cur, rfl, _, hh, _⟩
     · cases e
     · injection e with e
       exact hn cur (0, 0) (e ▸ hh)
def TkV (w : World) (B : Nat) (ts : List Tk) (v : Value) : Prop := ∃ A c, v = .slice A ts.length c ∧ ts.length ≤ c ∧ c ≤ maxLen ∧
 (0 < ts.length → ∃ b o, A = some ⟨b, o, none⟩ ∧ (B ≤ b ∧ b < w.heap.size) ∧ ∀ j u, (flatT ts)[j]? = some u → w.cell? ⟨b, o + j, none⟩ = some u)
theorem OwnT.tk {w : World} {B : Nat} {v : Value} {ts : List Tk} (h : OwnT w B v ts) : TkV w B ts v := by
 rcases h.2 with ⟨rfl, hn⟩ | ⟨g, cap, cur, rfl, hb, hh, hn, hm, hcs, hcur⟩
 · exact ⟨none, 0, by rw [hn], by omega, by decide, fun h0 => by omega⟩
 · refine ⟨_, cap, rfl, hn, hm, fun _ => ⟨g, 0, rfl, ⟨hb, Sy.blk_ltY hh⟩, fun j u hj => ?_⟩⟩
   rw [Nat.zero_add, cell_of_row _ _ _ _ _ _ hh]
   rw [← hcur] at hj
   rw [List.getElem?_take] at hj
   split at hj
   · simpa using hj
   · cases hj
theorem TkV.move {w w' : World} {B C : Nat} {ts : List Tk} {v : Value} (h : TkV w B ts v) (hs : w.heap.size ≤ w'.heap.size) (hC : C ≤ B) (hk : ∀ b, B ≤ b → b < w.heap.size → w'.heap[b]? = w.heap[b]?) : TkV w' C ts v := by
 obtain ⟨A, c, h1, h2, h3, h4⟩ := h
 refine ⟨A, c, h1, h2, h3, fun h0 => ?_⟩
 obtain ⟨b, o, h5, h6, h7⟩ := h4 h0
 exact ⟨b, o, h5, ⟨by omega, by omega⟩, fun j u hj => (World.cell?_of_block (a := ⟨b, o + j, none⟩) (hk b h6.1 h6.2)).trans (h7 j u hj)⟩
theorem TkV.keep {w w' : World} {B : Nat} {ts : List Tk} {v : Value} (h : TkV w B ts v) (hb : Below w.heap.size w w') : TkV w' B ts v := h.move hb.size (Nat.le_refl _) fun b _ hlt => hb.block b hlt
theorem TkV.less {w : World} {B C : Nat} {ts : List Tk} {v : Value} (h : TkV w B ts v) (hC : C ≤ B) : TkV w C ts v := h.move (Nat.le_refl _) hC fun _ _ _ => rfl
theorem TkV.but {w w' : World} {B g : Nat} {ts : List Tk} {v : Value} (h : TkV w B ts v) (hb : But g w w') (hg : g < B) : TkV w' B ts v := h.move hb.size (Nat.le_refl _) fun b h1 hlt => hb.block b hlt (by omega)
theorem Scn.kpT {w w' : World} {g B : Nat} {s : ByteArray} {i : Nat} (h : Scn w g s i) (hk : KpT B w w') : Scn w' g s i := (hk.keep g h.lt (fun cur fr e => by
 have h' := h
 unfold Scn at h'
 rw [h'] at e
 injection e with e
 injection e with _ e _
 exact absurd e (by decide))).trans h
section
variable (ok : List UInt8 → Bool) (num : Bool → List UInt8 → List UInt8 → List UInt8 × List UInt8) (size : List UInt8 → Nat)
def contL (n : Nat) : List UInt8 → Except (Int × Int) (List Tk)
 | [] => .ok [⟨0, n, [], [], []⟩]
 | c :: l => match oneL ok num size n c l with
  | .bad e p => .error (e, p)
  | .ok t r => match toksL ok num size n r with
   | .ok ts => .ok (t :: ts)
   | .error e => .error e
theorem toks_none {n : Nat} {l : List UInt8} (h : skipL l = none) : toksL ok num size n l = .error (11, (n : Int)) := by rw [toksL_eq, h]
theorem toks_some {n : Nat} {l r : List UInt8} (h : skipL l = some r) : toksL ok num size n l = contL ok num size n r := by
 rw [toksL_eq, h]
 cases r <;> rfl
end
def preE (acc : List Tk) : Except (Int × Int) (List Tk) → Except (Int × Int) (List Tk)
 | .ok ts => .ok (acc ++ ts)
 | .error e => .error e
theorem preE_one (acc : List Tk) (t : Tk) (x : Except (Int × Int) (List Tk)) : preE acc (match x with | .ok ts => .ok (t :: ts) | .error e => .error e) = preE (acc ++ [t]) x := by
 cases x with
 | ok ts => show Except.ok _ = Except.ok _; rw [List.append_assoc]; rfl
 | error e => rfl
def OutS (w : World) (R : Except (Int × Int) (List Tk)) (e : Ending) (w' : World) : Prop := Below w.heap.size w w' ∧ match R with
 | .ok ts => ∃ v, e = .returned v ∧ TkV w' w.heap.size ts v
 | .error x => e = .panicked [{ v := errV x.1 x.2, recovered := false }]
def toksS (n : Nat) (l : List UInt8) : Except (Int × Int) (List Tk) := toksL okP numP sizP n l
def scanS (s : ByteArray) : Except (Int × Int) (List Tk) := if 6000 < s.size then .error (2, 0) else toksS s.size (LA s)
def SaW (W wr : World) (g : Nat) (s : ByteArray) (v : Value) (acc : List Tk) (R : Except (Int × Int) (List Tk)) (j : Nat) : Prop :=
 ScW W wr g s j ∧ OwnT wr (g + 1) v acc ∧ preE acc (contL okP numP sizP s.size ((LA s).drop j)) = R ∧ acc.length ≤ j
theorem ScW.below {w W wr : World} {s : ByteArray} {i : Nat} (h : ScW W wr w.heap.size s i) (hW : Below w.heap.size w W) : Below w.heap.size w wr := hW.trans (h.2.below (Nat.le_refl _) hW.size)
theorem But.belowG {w W w1 w2 : World} {s : ByteArray} {i : Nat} (h : ScW W w1 w.heap.size s i) (hW : Below w.heap.size w W) (hb : But w.heap.size w1 w2) : Below w.heap.size w w2 := hW.trans ((h.2.trans hb).below (Nat.le_refl _) hW.size)
theorem ScW.kp5 {W wr w' : World} {g B : Nat} {s : ByteArray} {i : Nat} (h : ScW W wr g s i) (hk : KpT B wr w') (hB : W.heap.size ≤ B) : ScW W w' g s i :=
 ⟨h.1.kpT hk, hk.bel.os.trans h.2.os, hk.bel.tape.trans h.2.tape, hk.bel.output.trans h.2.output, Nat.le_trans h.2.size hk.bel.size, fun k hk' hne => (hk.bel.block k (Nat.lt_of_lt_of_le hk' hB)).trans (h.2.block k hk' hne)⟩
theorem scnew (w : World) (s : ByteArray) : Scn (w.alloc (.cells #[.string s, .int .i64 0] 212)) w.heap.size s 0 := heap_alloc_new w _
theorem OwnT.q {w w1 : World} {B : Nat} {v : Value} {l : List Tk} (h : OwnT w B v l) (hq : ∃ n, w1 = w.drewN n) : OwnT w1 B v l := h.keep (q_below hq)
theorem skipS (w : World) (g : Nat) (s : ByteArray) (r : List UInt8) (j : Nat) (hr : (LA s).drop j = r) (hj : j ≤ s.size) (h : Scn w g s j) (hs : s.size ≤ 6000) : Calls Tryz.prog 156 #[.pointer (some ⟨g, 0, none⟩)] w (OutO w g s (skipL r)) := hr ▸ skipP w g s j h hj hs
theorem skipS_none (w : World) (g : Nat) (s : ByteArray) (r : List UInt8) (j : Nat) (hr : (LA s).drop j = r) (hj : j ≤ s.size) (h : Scn w g s j) (hs : s.size ≤ 6000) (hn : skipL r = none) : Calls Tryz.prog 156 #[.pointer (some ⟨g, 0, none⟩)] w (PanS w g 11 s.size) := by
 have := skipS w g s r j hr hj h hs
 rw [hn] at this
 exact this
theorem skipS_some (w : World) (g : Nat) (s : ByteArray) (r q : List UInt8) (j : Nat) (hr : (LA s).drop j = r) (hj : j ≤ s.size) (h : Scn w g s j) (hs : s.size ≤ 6000) (hn : skipL r = some q) : Calls Tryz.prog 156 #[.pointer (some ⟨g, 0, none⟩)] w (RetR5 w g s q (.tuple #[])) := by
 have := skipS w g s r j hr hj h hs
 rw [hn] at this
 exact this
theorem scanP (s : ByteArray) (w : World) (hs63 : s.size ≤ 1000000000) : Calls Tryz.prog 110 #[.string s] w (OutS w (scanS s)) := by
 unfold scanS
 by_cases hbig : 6000 < s.size
 · rw [if_pos hbig]
   have h1 : (6000 : Int) < (s.size : Int) := by omega
   go_enter Tryz.func110, Tryz.ntmps110
   go_wp2_with fail
   refine (reportB 2 0 _).mono ?_
   rintro e w2 ⟨rfl, rfl⟩
   exact ⟨rfl, Below.refl _ _, rfl⟩
 · rw [if_neg hbig]
   have h1 : ¬ (6000 : Int) < (s.size : Int) := by omega
   have hs : s.size ≤ 6000 := by omega
   have HE := qh9 (ScW.start (scnew w s))
   have HW : Hid ((w.alloc (.cells #[.string s, .int .i64 0] 212)).heap.size ≤ w.heap.size + 1) := by show _ ≤ _; simp
   have HB := qh9 (show Below w.heap.size w (w.alloc (.cells #[.string s, .int .i64 0] 212)) from Below.alloc (Below.refl _ _) (Nat.le_refl _) _)
   clear hbig
   unfold toksS
   cases hS : skipL (LA s) with
   | none =>
    rw [toks_none _ _ _ hS]
    have KS : Hid (∀ w g, Scn w g s 0 → Calls Tryz.prog 156 #[.pointer (some ⟨g, 0, none⟩)] w (PanS w g 11 s.size)) := fun w g h => skipS_none w g s _ 0 rfl (Nat.zero_le _) h hs hS
    clear hS
    go_enter Tryz.func110, Tryz.ntmps110
    go_wp2_with fail
    refine (KS.out _ _ HE.out.1).mono ?_
    rintro e w3 ⟨rfl, hb⟩
    exact ⟨rfl, But.belowG HE.out HB.out hb, rfl⟩
   | some l0 =>
    rw [toks_some _ _ _ hS]
    have KS : Hid (∀ w g, Scn w g s 0 → Calls Tryz.prog 156 #[.pointer (some ⟨g, 0, none⟩)] w (RetR5 w g s l0 (.tuple #[]))) := fun w g h => skipS_some w g s _ _ 0 rfl (Nat.zero_le _) h hs hS
    obtain ⟨R, hR⟩ : ∃ R, contL okP numP sizP s.size l0 = R := ⟨_, rfl⟩
    rw [hR]
    have HR := qh9 hR
    clear hS hR
    go_enter Tryz.func110, Tryz.ntmps110
    go_wp2_with fail
    refine (KS.out _ _ HE.out.1).mono ?_
    rintro e w1 ⟨j0, hj0, hr0, rfl, hsc, hb⟩
    have H0 : Hid (SaW (w.alloc (.cells #[.string s, .int .i64 0] 212)) w1 w.heap.size s (.slice none 0 0) [] R j0) := ⟨HE.out.next hsc hb, OwnT.nil_ _ _, by
     rw [hr0, HR.out]
     cases R <;> rfl, Nat.zero_le _⟩
    clear hsc hb hr0 HE HR KS
    go_wp2_with fail
    go_loopw [3] (fun v wr => ∃ (j : Nat) (acc : List Tk) (sl : Value), j ≤ s.size ∧ sl = v ∧ Hid (SaW (w.alloc (.cells #[.string s, .int .i64 0] 212)) wr w.heap.size s sl acc R j)) (fun _ wr => s.size + 1 - posW w.heap.size wr)
    case atStart => exact ⟨j0, [], _, hj0, rfl, H0⟩
    case round =>
     clear H0
     obtain ⟨j, acc, sl, hj, rfl, hE⟩ := hrel
     obtain ⟨wo, rfl⟩ : ∃ wo : World, wo = wr := ⟨_, rfl⟩
     obtain ⟨hE, hO, hR, hacc⟩ := hE.out
     have HP := qh9 hE.1.posW
     have HE := qh9 hE
     have HO := qh9 hO
     clear hE hO
     rcases la_cases s hj with ⟨rfl, hl⟩ | ⟨hlt, hl⟩
     · rw [hl] at hR
       have HR := qh9 (show Except.ok (acc ++ [⟨0, s.size, [], [], []⟩]) = R from hR)
       clear hR hl
       go_wp2_with fail
       refine (endedP wo w.heap.size s _ HE.out.1).mono ?_
       rintro e w2 ⟨rfl, hq⟩
       rw [eq_yes]
       replace HE := qh9 (HE.out.q hq)
       replace HO := qh9 (HO.out.q hq)
       clear hq
       have hal := qh9 (show Below w2.heap.size w2 (w2.alloc (.cells (tkC ⟨0, (s.size : Int), [], [], []⟩) 157)) from Below.alloc (Below.refl _ _) (Nat.le_refl _) _)
       have hnw := qh9 (heap_alloc_new w2 (.cells (tkC ⟨0, (s.size : Int), [], [], []⟩) 157))
       have hob := qh9 (HO.out.keep hal.out)
       have hsz := qh9 (Nat.le_trans HE.out.1.lt hal.out.size)
       go_wp2_with (at_builtin; refine appTok rfl (.tmp 24) (.tmp 28) rfl rfl hob.out ⟨0, (s.size : Int), [], [], []⟩ w2.heap.size 1 rfl hnw.out (by omega) hsz.out ?_)
       intro v3 w4 h3 j3
       replace HE := qh9 ((HE.out.bel hal.out).kp5 j3 HW.out)
       replace HO := qh9 h3
       clear h3 j3 hal hnw hob hsz
       go_wp2
       go_ret
       have hE := HE.out.below HB.out
       rw [← HR.out]
       exact ⟨hE, _, rfl, HO.out.tk.less (Nat.le_succ _)⟩
     · rw [hl] at hR
       have HN := qh9 (eq_no hlt)
       cases hT : oneL okP numP sizP s.size s[j] ((LA s).drop (j + 1)) with
       | bad x p =>
        have HR : Hid (Except.error (x, p) = R) := by
         show _ = _
         rw [← hR, contL, hT]
         rfl
        have KT : Hid (∀ w g, Scn w g s j → Calls Tryz.prog 158 #[.pointer (some ⟨g, 0, none⟩)] w (PanS w g x p)) := fun w g h => by
         have := tokenP w g s j h hlt hs
         rw [hT] at this
         exact this
        clear hR hl hT
        go_wp2_with fail
        refine (endedP wo w.heap.size s _ HE.out.1).mono ?_
        rintro e w2 ⟨rfl, hq⟩
        rw [HN.out]
        replace HE := qh9 (HE.out.q hq)
        clear hq
        go_wp2_with fail
        refine (KT.out _ _ HE.out.1).mono ?_
        rintro e w3 ⟨rfl, hb⟩
        have hX : OutS w R (.panicked [{ v := errV x p, recovered := false }]) w3 := by
         rw [← HR.out]
         exact ⟨But.belowG HE.out HB.out hb, rfl⟩
        exact ⟨rfl, hX⟩
       | ok t r =>
        have hlen := oneL_le _ _ _ hT
        rw [List.length_drop, la_length] at hlen
        have hR2 : preE (acc ++ [t]) (toksL okP numP sizP s.size r) = R := by
         rw [← preE_one, ← hR, contL, hT]
        have KT : Hid (∀ w g, Scn w g s j → Calls Tryz.prog 158 #[.pointer (some ⟨g, 0, none⟩)] w (RetR5 w g s r (tkV t))) := fun w g h => by
         have := tokenP w g s j h hlt hs
         rw [hT] at this
         exact this
        clear hR hl hT
        cases hS : skipL r with
        | none =>
         rw [toks_none _ _ _ hS] at hR2
         have HR : Hid (Except.error (11, (s.size : Int)) = R) := hR2
         have KK : Hid (∀ w g j, (LA s).drop j = r → j ≤ s.size → Scn w g s j → Calls Tryz.prog 156 #[.pointer (some ⟨g, 0, none⟩)] w (PanS w g 11 s.size)) := fun w g j hr hj h => skipS_none w g s _ j hr hj h hs hS
         clear hR2 hS
         obtain ⟨tk, tp, tq, tt, td⟩ := t
         replace KT : Hid (∀ w g, Scn w g s j → Calls Tryz.prog 158 #[.pointer (some ⟨g, 0, none⟩)] w (RetR5 w g s r (.agg #[.int .i64 tk, .int .i64 tp, .string (BA tq), .string (BA tt), .string (BA td)]))) := KT
         go_wp2_with fail
         refine (endedP wo w.heap.size s _ HE.out.1).mono ?_
         rintro e w2 ⟨rfl, hq⟩
         rw [HN.out]
         replace HE := qh9 (HE.out.q hq)
         replace HO := qh9 (HO.out.q hq)
         clear hq
         go_wp2_with fail
         refine (KT.out _ _ HE.out.1).mono ?_
         rintro e w3 ⟨j2, hj2, hr2, rfl, hsc, hb⟩
         have HJ := qh9 hr2
         replace HE := qh9 (HE.out.next hsc hb)
         replace HO := qh9 (HO.out.but hb (Nat.lt_succ_self _))
         clear hsc hb hr2
         have hal := qh9 (show Below w3.heap.size w3 (w3.alloc (.cells (tkC ⟨tk, tp, tq, tt, td⟩) 157)) from Below.alloc (Below.refl _ _) (Nat.le_refl _) _)
         have hnw := qh9 (heap_alloc_new w3 (.cells (tkC ⟨tk, tp, tq, tt, td⟩) 157))
         have hob := qh9 (HO.out.keep hal.out)
         have hsz := qh9 (Nat.le_trans HE.out.1.lt hal.out.size)
         go_wp2_with (at_builtin; refine appTok rfl (.tmp 19) (.tmp 22) rfl rfl hob.out ⟨tk, tp, tq, tt, td⟩ w3.heap.size 1 rfl hnw.out (by omega) hsz.out ?_)
         intro v3 w4 h3 j3
         replace HE := qh9 ((HE.out.bel hal.out).kp5 j3 HW.out)
         replace HO := qh9 h3
         clear h3 j3 hal hnw hob hsz
         go_wp2_with fail
         refine (KK.out _ _ _ HJ.out hj2 HE.out.1).mono ?_
         rintro e w5 ⟨rfl, hb⟩
         have hX : OutS w R (.panicked [{ v := errV 11 s.size, recovered := false }]) w5 := by
          rw [← HR.out]
          exact ⟨But.belowG HE.out HB.out hb, rfl⟩
         exact ⟨rfl, hX⟩
        | some q =>
         rw [toks_some _ _ _ hS] at hR2
         have HR := qh9 hR2
         have hlq := skipL_le hS
         have KK : Hid (∀ w g j, (LA s).drop j = r → j ≤ s.size → Scn w g s j → Calls Tryz.prog 156 #[.pointer (some ⟨g, 0, none⟩)] w (RetR5 w g s q (.tuple #[]))) := fun w g j hr hj h => skipS_some w g s _ _ j hr hj h hs hS
         clear hR2 hS
         obtain ⟨tk, tp, tq, tt, td⟩ := t
         replace KT : Hid (∀ w g, Scn w g s j → Calls Tryz.prog 158 #[.pointer (some ⟨g, 0, none⟩)] w (RetR5 w g s r (.agg #[.int .i64 tk, .int .i64 tp, .string (BA tq), .string (BA tt), .string (BA td)]))) := KT
         go_wp2_with fail
         refine (endedP wo w.heap.size s _ HE.out.1).mono ?_
         rintro e w2 ⟨rfl, hq⟩
         rw [HN.out]
         replace HE := qh9 (HE.out.q hq)
         replace HO := qh9 (HO.out.q hq)
         clear hq
         go_wp2_with fail
         refine (KT.out _ _ HE.out.1).mono ?_
         rintro e w3 ⟨j2, hj2, hr2, rfl, hsc, hb⟩
         have HJ := qh9 hr2
         replace HE := qh9 (HE.out.next hsc hb)
         replace HO := qh9 (HO.out.but hb (Nat.lt_succ_self _))
         clear hsc hb hr2
         have hal := qh9 (show Below w3.heap.size w3 (w3.alloc (.cells (tkC ⟨tk, tp, tq, tt, td⟩) 157)) from Below.alloc (Below.refl _ _) (Nat.le_refl _) _)
         have hnw := qh9 (heap_alloc_new w3 (.cells (tkC ⟨tk, tp, tq, tt, td⟩) 157))
         have hob := qh9 (HO.out.keep hal.out)
         have hsz := qh9 (Nat.le_trans HE.out.1.lt hal.out.size)
         go_wp2_with (at_builtin; refine appTok rfl (.tmp 19) (.tmp 22) rfl rfl hob.out ⟨tk, tp, tq, tt, td⟩ w3.heap.size 1 rfl hnw.out (by omega) hsz.out ?_)
         intro v3 w4 h3 j3
         replace HE := qh9 ((HE.out.bel hal.out).kp5 j3 HW.out)
         replace HO := qh9 h3
         clear h3 j3 hal hnw hob hsz
         go_wp2_with fail
         refine (KK.out _ _ _ HJ.out hj2 HE.out.1).mono ?_
         rintro e w5 ⟨j5, hj5, hr5, rfl, hsc, hb⟩
         have HD := qh9 (len_drop hj5 hr5)
         have HR5 : Hid (preE (acc ++ [⟨tk, tp, tq, tt, td⟩]) (contL okP numP sizP s.size ((LA s).drop j5)) = R) := by show _ = _; rw [hr5]; exact HR.out
         replace HE := qh9 (HE.out.next hsc hb)
         replace HO := qh9 (HO.out.but hb (Nat.lt_succ_self _))
         clear hsc hb hr5
         go_wp2
         go_roundw
         case rel => exact ⟨j5, _, _, hj5, rfl, HE.out, HO.out, HR5.out, by
          have := HD.out
          rw [List.length_append]
          simp only [List.length_cons, List.length_nil]
          omega⟩
         case measure =>
          rw [HP.out, HE.out.1.posW]
          have := HD.out
          omega
def EB (W : World) (g : Nat) (x y : Value) : Prop := W.heap[g]? = some (.cells #[x, y] 30 (0, 0))
theorem EB.lt {W : World} {g : Nat} {x y : Value} (h : EB W g x y) : g < W.heap.size := Sy.blk_ltY h
theorem EB.keep {W W' : World} {g : Nat} {x y : Value} (h : EB W g x y) (hb : Below W.heap.size W W') : EB W' g x y := (hb.block g h.lt).trans h
theorem EB.new (w : World) (x y : Value) : EB (w.alloc (.cells #[x, y] 30)) w.heap.size x y := heap_alloc_new w _
theorem EB.c0 {W : World} {g : Nat} {x y : Value} (h : EB W g x y) : W.cell? ⟨g, 0, none⟩ = some x := by rw [cell_of_row _ _ _ _ _ _ h]; rfl
theorem EB.c1 {W : World} {g : Nat} {x y : Value} (h : EB W g x y) : W.cell? ⟨g, 1, none⟩ = some y := by rw [cell_of_row _ _ _ _ _ _ h]; rfl
theorem EB.fr {W : World} {g k : Nat} {x y : Value} (h : EB W g x y) : W.frozen? ⟨g, k, none⟩ = false := by
 unfold EB at h
 simp [World.frozen?, h]
theorem retE {fn : Func} {p : Tmp} {Q : Ending → World → Prop} {tmps : Array Value} {w : World} {g : Nat} {x y : Value}
 (h : fn.results = #[.cell p 30]) (hp : tmps.getD p undef = .pointer (some ⟨g, 0, none⟩)) (hg : EB w g x y)
 (hQ : Q (.returned (.agg #[x, y])) w) : bodyPost Tryz.prog fn Q Exit.ret ⟨tmps, []⟩ w :=
 bodyPost_ret (results_cell_row h tmps w g 30 #[x, y] (0, 0) _ hp hg Tryz.underlying30 rfl (by kernel_rfl)) rfl hQ
theorem EB.cell2 {W : World} {g : Nat} {x y : Value} (h : EB W g x y) (u v : Value) : EB ((W.setCell ⟨g, 0, none⟩ u).setCell ⟨g, 1, none⟩ v) g u v := by
 unfold EB at h ⊢
 simp [World.setCell, Array.getElem?_modify, h]
def Cat (w : World) (g : Nat) (e p : Int) (w' : World) : Prop := EB w' g (.int .i64 e) (.int .i64 p) ∧ But g w w'
theorem Cat.mk_ {w w1 : World} {g : Nat} {x y : Value} {e p : Int} (h : EB w g x y) (hb : Below w.heap.size w w1) : Cat w g e p ((w1.setCell ⟨g, 0, none⟩ (.int .i64 e)).setCell ⟨g, 1, none⟩ (.int .i64 p)) :=
 ⟨(h.keep hb).cell2 _ _, ((But.of hb).trans (But.set w1 0 _)).trans (But.set _ 1 _)⟩
theorem EB.run {w : World} {g : Nat} {x y : Value} (hg : EB w g x y) : (loadVar 30 ⟨g, 0, none⟩).run Tryz.prog w = .ok (.agg #[x, y]) w :=
 run_loadVar_row w g 30 30 #[x, y] (0, 0) _ hg Tryz.underlying30 rfl (by kernel_rfl)
theorem resTE {fn : Func} {r0 r1 : Tmp} {tmps : Array Value} {w : World} {g : Nat} {u v x : Value} (h : fn.results = #[.tmp r0, .cell r1 30]) (h0 : tmps.getD r0 undef = x) (h1 : tmps.getD r1 undef = .pointer (some ⟨g, 0, none⟩))
 (hg : EB w g u v) : (results fn tmps).run Tryz.prog w = .ok (.tuple #[x, .agg #[u, v]]) w := by
 subst h0
 have h1' : tmps[r1]?.getD undef = .pointer (some ⟨g, 0, none⟩) := by simpa using h1
 simp [results, h, h1', asAddr, hg.run]
theorem leaves_end {fn : Func} {tmps : Array Value} {R : Ending → World → Prop} {w : World} {v : Value} (hr : (results fn tmps).run Tryz.prog w = .ok v w) (hQ : R (.returned v) w) : Leaves Tryz.prog fn tmps R [] .returning w := ⟨v, hr, hQ⟩
theorem heap_old1 (w : World) (x y : Obj) : ((w.alloc x).alloc y).heap[w.heap.size]? = some x := by
 have h := (Below.alloc (Below.refl (w.alloc x).heap.size (w.alloc x)) (Nat.le_refl _) y).block w.heap.size (by simp)
 rw [h]
 exact heap_alloc_new w x
theorem al2 (w : World) (x y : Obj) : Below w.heap.size w ((w.alloc x).alloc y) := (Below.alloc (Below.refl _ _) (Nat.le_refl _) x).alloc (by simp) y
theorem reportedP (x p : Int) (w : World) : Calls Tryz.prog 67 #[errV x p] w (Sy.RetY w (.agg #[.int .i64 x, .int .i64 p])) := by
 unfold errV
 have hta : ∀ w, (Instr.typeAssert (.iface 30 (.agg #[.int .i64 x, .int .i64 p])) 20 30 true).run Tryz.prog w = .ok (.tuple #[.agg #[.int .i64 x, .int .i64 p], .bool true]) w := fun w => by first | rfl | kernel_rfl
 go_enter Tryz.func67, Tryz.ntmps67
 go_wp2_with fail
 exact retE rfl rfl (heap_old1 _ _ _) ⟨rfl, al2 _ _ _⟩
theorem reportedN (w : World) : Calls Tryz.prog 67 #[.nilIface] w (Sy.RetY w (.agg #[.int .i64 0, .int .i64 0])) := by
 have hta : ∀ w, (Instr.typeAssert .nilIface 20 30 true).run Tryz.prog w = .ok (.tuple #[.agg #[.int .i64 0, .int .i64 0], .bool false]) w := fun w => by first | rfl | kernel_rfl
 go_enter Tryz.func67, Tryz.ntmps67
 go_wp2_with fail
 exact retE rfl rfl (heap_old1 _ _ _) ⟨rfl, al2 _ _ _⟩
theorem catchT (g : Nat) (x y : Value) (e p : Int) (older : List PanicEntry) (w : World) (h : EB w g x y) : CallsD Tryz.prog 260 #[.pointer (some ⟨g, 0, none⟩)] (.panicking ({ v := errV e p, recovered := false } :: older)) w fun e' u' w' =>
 e' = .returned (.tuple #[]) ∧ u' = .panicking ({ v := errV e p, recovered := true } :: older) ∧ Cat w g e p w' := by
 refine callsD_of_wpS Tryz.func260 rfl fun c₀ cs hu => ?_
 apply wpS_region
 simp [wpOpsS, go_sem, recoverD, hu, Tryz.ntmps260]
 refine (reportedP e p w).mono ?_
 rintro e' w1 ⟨rfl, hb⟩
 have h1 := h.keep hb
 have c0 := h1.c0
 have c1 := h1.c1
 have f0 : w1.frozen? ⟨g, 0, none⟩ = false := h1.fr
 have f1 : w1.frozen? ⟨g, 1, none⟩ = false := h1.fr
 simp [storeCells, go_sem, c0, c1, f0, f1, bodyPostS, results, Tryz.results260]
 exact Cat.mk_ h hb
theorem idleT (g : Nat) (x y : Value) (w : World) (h : EB w g x y) : CallsD Tryz.prog 260 #[.pointer (some ⟨g, 0, none⟩)] .returning w fun e' u' w' =>
 e' = .returned (.tuple #[]) ∧ u' = .returning ∧ Cat w g 0 0 w' := by
 refine callsD_of_wpS Tryz.func260 rfl fun c₀ cs hu => ?_
 apply wpS_region
 simp [wpOpsS, go_sem, recoverD, hu, Tryz.ntmps260]
 refine (reportedN w).mono ?_
 rintro e' w1 ⟨rfl, hb⟩
 have h1 := h.keep hb
 have c0 := h1.c0
 have c1 := h1.c1
 have f0 : w1.frozen? ⟨g, 0, none⟩ = false := h1.fr
 have f1 : w1.frozen? ⟨g, 1, none⟩ = false := h1.fr
 simp [storeCells, go_sem, c0, c1, f0, f1, bodyPostS, results, Tryz.results260]
 exact ⟨.returning, by cases c₀; simp_all, rfl, Cat.mk_ h hb⟩
def OutV (w : World) (R : Except (Int × Int) (List Tk)) (e : Ending) (w' : World) : Prop := Below w.heap.size w w' ∧ match R with
 | .ok ts => ∃ v, e = .returned (.tuple #[v, .agg #[.int .i64 0, .int .i64 0]]) ∧ TkV w' w.heap.size ts v
 | .error x => e = .returned (.tuple #[.slice none 0 0, .agg #[.int .i64 x.1, .int .i64 x.2]])
theorem tokensP (s : ByteArray) (w : World) (hs63 : s.size ≤ 1000000000) : Calls Tryz.prog 227 #[.string s] w (OutV w (scanS s)) := by
 have hmf : ∀ (fn : Fn) (first cap : Array Value) (w : World), (Instr.makeFunc fn first cap).run Tryz.prog w = .ok (.func fn first cap) w := fun _ _ _ _ => rfl
 have KS := qh9 (scanP s (w.alloc (.cells #[.int .i64 0, .int .i64 0] 30)) hs63)
 have T0 := qh9 (EB.new w (.int .i64 0) (.int .i64 0))
 have HB := qh9 (show Below w.heap.size w (w.alloc (.cells #[.int .i64 0, .int .i64 0] 30)) from Below.alloc (Below.refl _ _) (Nat.le_refl _) _)
 cases hR : scanS s with
 | error x =>
  rw [hR] at KS
  obtain ⟨x, p⟩ := x
  clear hR
  go_enter_defers Tryz.func227, Tryz.ntmps227
  go_wp2_with fail
  refine KS.out.mono ?_
  rintro e w2 ⟨hb, he⟩
  replace he : e = _ := he
  subst he
  refine leaves_cons (f := 260) (args := #[.pointer (some ⟨w.heap.size, 0, none⟩)]) (by simp) (by simp [go_sem]) ?_
  refine (catchT w.heap.size _ _ x p [] w2 (T0.out.keep hb)).mono ?_
  rintro e u' w3 ⟨rfl, rfl, hC⟩
  exact leaves_end (resTE rfl rfl rfl hC.1) ⟨HB.out.trans ((But.of hb).trans hC.2 |>.below (Nat.le_refl _) HB.out.size), rfl⟩
 | ok ts =>
  rw [hR] at KS
  clear hR
  go_enter_defers Tryz.func227, Tryz.ntmps227
  go_wp2_with fail
  refine KS.out.mono ?_
  rintro e w2 ⟨hb, v, rfl, hv⟩
  have HV := qh9 hv
  have T2 := qh9 (T0.out.keep hb)
  have c0 := T2.out.c0
  have c1 := T2.out.c1
  have f0 : w2.frozen? ⟨w.heap.size, 0, none⟩ = false := T2.out.fr
  have f1 : w2.frozen? ⟨w.heap.size, 1, none⟩ = false := T2.out.fr
  have HB2 := qh9 (chain5 HB.out hb)
  clear hv hb
  go_wp2_with fail
  clear c0 c1 f0 f1
  refine leaves_cons (f := 260) (args := #[.pointer (some ⟨w.heap.size, 0, none⟩)]) (by simp) (by simp [go_sem]) ?_
  refine (idleT w.heap.size _ _ _ (T2.out.cell2 _ _)).mono ?_
  rintro e u' w3 ⟨rfl, rfl, hC⟩
  have hbb : Below w.heap.size w w3 := HB2.out.trans (((But.set w2 0 _).trans (But.set _ 1 _)).trans hC.2 |>.below (Nat.le_refl _) HB2.out.size)
  refine leaves_end (resTE rfl rfl rfl hC.1) ⟨hbb, v, rfl, ?_⟩
  have hv : TkV w2 (w.heap.size + 1) ts v := by have := HV.out; simpa using this
  exact (hv.but (((But.set w2 0 _).trans (But.set _ 1 _)).trans hC.2) (Nat.lt_succ_self _)).less (Nat.le_succ _)
end Go.Proofs.YtlocnkobancjmaaGreatDoor
