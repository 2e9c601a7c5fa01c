import Derived.Test.YtlocnkobancjmaaGreatDoorAl
import Derived.Test.YtlocnkobancjmaaGreatDoorG29
import Derived.Test.YtlocnkobancjmaaGreatDoorG30
import Derived.Test.YtlocnkobancjmaaGreatDoorG28
import Derived.BigRegion
import Derived.Test.YtlocnkobancjmaaGreatDoorG18
import Derived.Test.YtlocnkobancjmaaGreatDoorG26
import Derived.BigQuiet
namespace Go.Proofs.YtlocnkobancjmaaGreatDoor
open Go Go.RowKit
set_option linter.unusedVariables false
set_option maxHeartbeats 32000000
set_option maxRecDepth 100000
theorem impM_memU : ∀ {q : List Sy.Sy} {n : ByteArray} {s : Sy.Sy}, Sy.impM q n = some s → s ∈ q ∧ (s.2.toList == n.toList) = true
 | x :: r, n, s, h => by
  unfold Sy.impM at h
  split at h
  · rename_i hx; injection h with h; subst h; exact ⟨by simp, hx⟩
  · obtain ⟨h1, h2⟩ := impM_memU h
    exact ⟨List.mem_cons_of_mem _ h1, h2⟩
theorem findM_memU : ∀ {q : List Sy.Pg} {n : ByteArray} {p : Sy.Pg}, Sy.findM q n = some p → p ∈ q ∧ (p.1.toList == n.toList) = true
 | x :: r, n, p, h => by
  unfold Sy.findM at h
  split at h
  · rename_i hx; injection h with h; subst h; exact ⟨by simp, hx⟩
  · obtain ⟨h1, h2⟩ := findM_memU h
    exact ⟨List.mem_cons_of_mem _ h1, h2⟩
theorem ba_of_list {a b : ByteArray} (h : (a.toList == b.toList) = true) : a = b := by
 have h1 := eq_of_beq h
 rw [Lib.toList_data, Lib.toList_data] at h1
 apply ByteArray.ext
 exact Array.toList_inj.1 h1
theorem visM_ofU {L : List Sy.Pg} {cur : ByteArray} {s : Sy.Sy} (h : Sy.internM L cur s.2 = (s, 0)) : Sy.visM L cur s = true := by
 unfold Sy.visM
 rw [h]
 simp
theorem user_pkgs : ∀ p ∈ userM, p.1.size ≤ 4 ∧ Sy.pkgOk p.1 = true := by decide
theorem home1 : Sy.homeM userM (BA lispB, ⟨#[99, 97, 114]⟩) = true := by kernel_rfl
theorem home2 : Sy.homeM userM (BA lispB, ⟨#[110, 105, 108]⟩) = true := by kernel_rfl
theorem home3 : Sy.homeM userM (BA lispB, ⟨#[116]⟩) = true := by kernel_rfl
theorem home4 : Sy.homeM userM (BA lispB, BA [113, 117, 111, 116, 101]) = true := by kernel_rfl
theorem user_imps : ∀ p ∈ userM, ∀ s ∈ p.2, s.1.size ≤ 4 ∧ Sy.symOk s.1 s.2 = true ∧ Sy.homeM userM s = true := by
 intro p hp s hs
 simp only [userM, List.mem_cons, List.not_mem_nil, or_false] at hp
 rcases hp with rfl | rfl
 · simp at hs
 · simp only [userI, List.mem_cons, List.not_mem_nil, or_false] at hs
   rcases hs with rfl | rfl | rfl
   · exact ⟨by decide, by decide, home1⟩
   · exact ⟨by decide, by decide, home2⟩
   · exact ⟨by decide, by decide, home3⟩
theorem intern_user {c n : ByteArray} {s : Sy.Sy} (h : Sy.internM userM c n = (s, 0)) : s.1.size ≤ 4 ∧ s.2 = n ∧ Sy.symOk s.1 s.2 = true ∧ Sy.homeM userM s = true := by
 have h0 := h
 unfold Sy.internM at h
 cases hf : Sy.findM userM c with
 | none => rw [hf] at h; simp at h
 | some p =>
  rw [hf] at h
  simp only at h
  obtain ⟨hp, hpc⟩ := findM_memU hf
  have ec := ba_of_list hpc
  split at h
  · rename_i hn
    cases hi : Sy.impM p.2 n with
    | some s' =>
     rw [hi] at h
     simp only [Prod.mk.injEq, and_true] at h
     subst h
     obtain ⟨h1, h2⟩ := impM_memU hi
     obtain ⟨g1, g2, g3⟩ := user_imps p hp _ h1
     exact ⟨g1, ba_of_list h2, g2, g3⟩
    | none =>
     rw [hi] at h
     simp only [Prod.mk.injEq, and_true] at h
     subst h
     obtain ⟨g1, g2⟩ := user_pkgs p hp
     rw [ec] at g1 g2
     refine ⟨g1, rfl, ?_, visM_ofU h0⟩
     show (Sy.pkgOk c && Sy.nameOk n) = true
     rw [g2, hn]
     rfl
  · simp at h
theorem lf_of (cur : ByteArray) {t : Tk} (h : TkI t) : LfOk userM cur t := by
 refine ⟨fun k => ?_, fun k => ?_, fun k ke => ?_⟩
 · obtain ⟨q, e1, e2, hq⟩ := h.num k
   have e : numT' t = q := by unfold numT'; rw [e1, e2, quo_self]
   rw [e]
   refine ⟨hq, ?_⟩
   have hb := congrArg ByteArray.size (numS_bytes q)
   rw [BA_size] at hb
   have l1 : t.txt.length = (nt q).size := by rw [e1]; exact la_length _
   have l2 : t.den.length = (dt q).size := by rw [e2]; exact la_length _
   unfold wtT
   rw [hb]
   split
   · omega
   · rw [ByteArray.size_append, ByteArray.size_append]
     show (nt q).size + 1 + (dt q).size + 10 ≤ _
     omega
 · have h1 := h.str k
   have h2 := escL_len 34 t.txt
   unfold wtT
   exact ⟨h1, by omega⟩
 · obtain ⟨s, hs⟩ : ∃ s, (Sy.internM userM (homeB cur t) (BA t.txt)).1 = s := ⟨_, rfl⟩
   have hi : Sy.internM userM (homeB cur t) (BA t.txt) = (s, 0) := Prod.ext hs ke
   obtain ⟨g1, g2, g3, g4⟩ := intern_user hi
   have e : symL userM cur t = ((LA s.1, LA s.2), (0 : Int)) := by unfold symL; rw [hi]
   rw [e]
   simp only [BA_LA]
   refine ⟨⟨g3, g4⟩, ?_⟩
   have hn := nmU_len userM cur (LA s.1) (LA s.2)
   have l1 : (LA s.1).length = s.1.size := la_length _
   have l2 : (LA s.2).length = t.txt.length := by rw [g2, LA_BA]
   unfold wtT
   omega
theorem lp_of (cur : ByteArray) : LpOk userM cur := by
 refine ⟨⟨by decide, home4⟩, ⟨by decide, home2⟩, ?_, ?_⟩
 · exact Nat.le_trans (nmU_len userM cur lispB [113, 117, 111, 116, 101]) (by decide)
 · exact Nat.le_trans (nmU_len userM cur lispB [110, 105, 108]) (by decide)
/-- What a text of at most 100 bytes is read as: it can be printed, and its text is read as it. -/
theorem one_again (cur s : ByteArray) (o : Ob) (hs : s.size ≤ 100) (h : oneS userM cur s = .ok o) : PrOkU userM o ∧ o.nodes ≤ 410 ∧ (prO (nmU userM cur) o).length ≤ 6000 ∧ oneS userM cur (BA (prO (nmU userM cur) o)) = .ok o ∧ SmS (BA (prO (nmU userM cur) o)) := by
 unfold oneS readS at h
 cases hsc : scanS s with
 | error x => rw [hsc] at h; simp at h
 | ok ts =>
  rw [hsc] at h
  simp only at h
  have hsm : s.size ≤ 6000 := by omega
  obtain ⟨wf, hlen, _⟩ := scanS_ok hsc
  have hts : toksF okP numP sizP s.size ((LA s).length + 1) (LA s) = .ok ts := by
   have := hsc
   rw [scanS_small hsm] at this
   exact this
  obtain ⟨ti, tw⟩ := toks_w s.size _ _ _ hts
  have hl : (LA s).length = s.size := la_length s
  have e : (numK : Tk → Rat) = numT' := rfl
  rw [e] at h
  have hR := readL_eq (symL userM cur) numT' ts wf
  cases hx : readL (symL userM cur) numT' ts with
  | error x => rw [hx] at h; simp at h
  | ok xs =>
   rw [hx] at h hR
   match xs, h, hR with
   | [], h, _ => simp at h
   | _ :: _ :: _, h, _ => simp at h
   | [x], h, hR =>
    simp only [Except.ok.injEq] at h
    subst h
    cases ts with
    | nil => simp [allF] at hR
    | cons t ts =>
     rw [List.length_cons, allF] at hR
     split at hR
     · simp at hR
     split at hR
     · simp at hR
     split at hR
     · simp at hR
     · simp at hR
     · rename_i o r hp
       split at hR
       · simp at hR
       · obtain ⟨l', hl'⟩ := allF_app _ _ _ _ _ _ hR
         have eo : x = (o, t.p) := by
          simp only [List.nil_append, List.cons_append, List.cons.injEq] at hl'
          exact hl'.1
         subst eo
         obtain ⟨cs, ecs, g⟩ := (parse_gd (lp_of cur) _).1 _ _ _ _ (fun u hu => lf_of cur (ti u hu)) hp
         have g1 := g.tk
         have g2 := g.nd
         have g3 := g.tx
         have hcl : cs.length ≤ (t :: ts).length := by rw [ecs, List.length_append]; omega
         have hcw : wtS cs ≤ wtS (t :: ts) := by rw [ecs, wtS_app]; omega
         have hz : (prO (nmU userM cur) o).length ≤ 6000 := by omega
         obtain ⟨k1, k2⟩ := one_tk userM cur o g.ok (by omega) (by omega) hz
         exact ⟨g.ok, by show o.nodes ≤ 410; omega, hz, k1, k2⟩
/-- The digits of a decimal are at most a hundred. -/
def shB (s : ByteArray) : Bool := decide (((body (LA s)).length : Int) ≤ 100)
def okN (q : Rat) : Bool := shB (nt q) && shB (dt q)
theorem isShortB (x : Int) (h : (BA (text x)).size ≤ 400000000) (w : World) : Calls Tryz.prog 252 #[.string (BA (text x))] w fun e w' => e = .returned (.bool (shB (BA (text x)))) ∧ w = w' := by
 have hv : valid (LA (BA (text x))) = true := by rw [LA_BA]; exact valid_text x
 have V : Hid (∀ w, Calls Tryz.prog 283 #[.string (BA (text x))] w fun e w' => e = .returned (.bool true) ∧ w = w') := fun w => by
  have := valid_any (BA (text x)) w (by unfold maxLen; omega)
  rw [hv] at this
  exact this
 have D : Hid (∀ w, Calls Tryz.prog 277 #[.string (BA (text x))] w fun e w' => e = .returned (.int .i64 ((body (LA (BA (text x)))).length : Nat)) ∧ w = w') := fun w => digits_any _ w (by omega)
 unfold shB
 clear h hv
 generalize BA (text x) = s at V D ⊢
 generalize (body (LA s)).length = n at D ⊢
 go_enter Tryz.func252, Tryz.ntmps252
 go_wp2_with fail
 refine (V.out _).mono ?_
 rintro e w' ⟨rfl, rfl⟩
 go_wp2_with fail
 refine (D.out _).mono ?_
 rintro e w' ⟨rfl, rfl⟩
 go_wp2
 go_ret
 exact ⟨rfl, rfl⟩
theorem isFracB (q : Rat) (h : Bd 900 q) (w : World) : Calls Tryz.prog 222 #[.string (nt q), .string (dt q)] w (RetB w (okN q)) := by
 have s1 := bd_nt h
 have s2 := bd_dt h
 have C1 : Hid (∀ w, Calls Tryz.prog 252 #[.string (nt q)] w fun e w' => e = .returned (.bool (shB (nt q))) ∧ w = w') := fun w => isShortB q.num (by have : (nt q).size ≤ 902 := s1; unfold nt at this; omega) w
 have C2 : Hid (∀ w, Calls Tryz.prog 252 #[.string (dt q)] w fun e w' => e = .returned (.bool (shB (dt q))) ∧ w = w') := fun w => isShortB (q.den : Int) (by have : (dt q).size ≤ 902 := s2; unfold dt at this; omega) w
 have C3 : Hid (∀ w, Calls Tryz.prog 253 #[.string (dt q), .string ⟨#[48]⟩] w fun e w' => e = .returned (.int .i64 1) ∧ w = w') := fun w => by
  have h3 := compare_any (dt q) ⟨#[48]⟩ w (by omega) (by decide)
  rw [val_dt, val_zero1] at h3
  have : ordI (q.den : Int) 0 = 1 := by
   have := q.den_pos
   unfold ordI
   rw [if_neg (by omega), if_pos (by omega)]
  rw [this] at h3
  exact h3
 have C4 : Hid (∀ w, Calls Tryz.prog 254 #[.string (nt q), .string (dt q)] w fun e w' => e = .returned (.string ⟨#[49]⟩) ∧ Below w.heap.size w w') := fun w => by
  have h4 := gcd_any (nt q) (dt q) w (by omega) (by omega)
  rw [← val_natAbs, ← val_natAbs, val_nt, val_dt, Int.natAbs_natCast, q.reduced.gcd_eq_one] at h4
  exact h4
 unfold okN
 clear h s1 s2
 generalize shB (nt q) = b1 at *
 generalize shB (dt q) = b2 at *
 generalize nt q = nq at *
 generalize dt q = dq at *
 cases b1 with
 | false =>
  go_enter Tryz.func222, Tryz.ntmps222
  go_wp2_with fail
  refine (C1.out _).mono ?_
  rintro e w' ⟨rfl, rfl⟩
  go_wp2
  go_ret
  exact ⟨rfl, Below.refl _ _⟩
 | true =>
  cases b2 with
  | false =>
   go_enter Tryz.func222, Tryz.ntmps222
   go_wp2_with fail
   refine (C1.out _).mono ?_
   rintro e w' ⟨rfl, rfl⟩
   go_wp2_with fail
   refine (C2.out _).mono ?_
   rintro e w' ⟨rfl, rfl⟩
   go_wp2
   go_ret
   exact ⟨rfl, Below.refl _ _⟩
  | true =>
   by_cases hd : (dq.toList == [49]) = true
   · go_enter Tryz.func222, Tryz.ntmps222
     go_wp2_with fail
     refine (C1.out _).mono ?_
     rintro e w' ⟨rfl, rfl⟩
     go_wp2_with fail
     refine (C2.out _).mono ?_
     rintro e w' ⟨rfl, rfl⟩
     go_wp2
     go_ret
     exact ⟨rfl, Below.refl _ _⟩
   · have hn : (dq.toList == [49]) = false := by
      cases hx : (dq.toList == [49])
      · rfl
      · exact absurd hx hd
     clear hd
     go_enter Tryz.func222, Tryz.ntmps222
     go_wp2_with fail
     refine (C1.out _).mono ?_
     rintro e w' ⟨rfl, rfl⟩
     go_wp2_with fail
     refine (C2.out _).mono ?_
     rintro e w' ⟨rfl, rfl⟩
     go_wp2_with fail
     refine (C3.out _).mono ?_
     rintro e w' ⟨rfl, rfl⟩
     go_wp2_with fail
     refine (C4.out _).mono ?_
     rintro e w' ⟨rfl, hb⟩
     have HB := qh9 hb
     clear hb
     go_wp2
     go_ret
     exact ⟨rfl, HB.out⟩
/-- What the kinds share: the fields are those that the kind wants, then the kind's own test. -/
theorem wellNum (q : Rat) (b k : Nat) (p : Value) (w : World) (S : Nat → Prop) (hwf : Bd 900 q) (hS : In S w) (h : At w S (.num q) b k p) :
 Calls Tryz.prog 168 #[.pointer (some ⟨b, k, none⟩)] w (RetB w (okN q)) := by
 obtain ⟨x0, x1, x2, x3, x4, x5, e, l0, l1, l2, l3, l4, l5, l6⟩ := h.cells
 obtain rfl := h.2.2.flat rfl
 have hlt : b < w.heap.size := hS b h.1.1
 rw [cellsO_f] at e
 simp only [List.cons.injEq, and_true] at e
 obtain ⟨rfl, rfl, rfl, rfl, rfl, rfl⟩ := e
 have hF : Hid (∀ w, Calls Tryz.prog 222 #[.string (nt q), .string (dt q)] w (RetB w (okN q))) := fun w => isFracB q hwf w
 have HO : Hid (∀ wd, Below w.heap.size w wd → Calls Tryz.prog 221 #[.pointer (some ⟨b, k, none⟩), .agg #[.int .i64 0, .string (nt q), .string (dt q), .string ⟨#[]⟩, .string ⟨#[]⟩, .string ⟨#[]⟩, .slice none 0 0]] wd (RetB wd true)) := fun wd hb =>
  hasOnlyP b k wd 1 (nt q) (dt q) ⟨#[]⟩ ⟨#[]⟩ ⟨#[]⟩ none 0 0 ((hb.cell (p := ⟨b, k, none⟩) hlt).trans l0) ((hb.cell (p := ⟨b, k + 1, none⟩) hlt).trans l1) ((hb.cell (p := ⟨b, k + 2, none⟩) hlt).trans l2) ((hb.cell (p := ⟨b, k + 3, none⟩) hlt).trans l3) ((hb.cell (p := ⟨b, k + 4, none⟩) hlt).trans l4) ((hb.cell (p := ⟨b, k + 5, none⟩) hlt).trans l5) ((hb.cell (p := ⟨b, k + 6, none⟩) hlt).trans l6)
 have HC : Hid (∀ wd, Below w.heap.size w wd → wd.cell? ⟨b, k + 1, none⟩ = some (.string (nt q)) ∧ wd.cell? ⟨b, k + 2, none⟩ = some (.string (dt q))) := fun wd hb => ⟨(hb.cell (p := ⟨b, k + 1, none⟩) hlt).trans l1, (hb.cell (p := ⟨b, k + 2, none⟩) hlt).trans l2⟩
 have hB0 : Below w.heap.size w w.drew := (Below.refl _ _).drew
 change w.cell? ⟨b, k, none⟩ = some (.int .i64 1) at l0
 change w.cell? ⟨b, k + 1, none⟩ = some (.string (nt q)) at l1
 change w.cell? ⟨b, k + 2, none⟩ = some (.string (dt q)) at l2
 clear l3 l4 l5 l6 h hwf
 generalize nt q = nq at *
 generalize dt q = dq at *
 generalize okN q = bq at *
 go_enter Tryz.func168, Tryz.ntmps168
 go_wp2_with fail
 go_region_held3 (fun W' => W'.cell? ⟨b, k + 1, none⟩ = some (.string nq) ∧ W'.cell? ⟨b, k + 2, none⟩ = some (.string dq)) (go_keep)
  (first
    | (go_at_call 221; refine (HO.out _ ‹Below w.heap.size w _›).mono ?_; rintro e w3 ⟨rfl, hb3⟩; have hB3 := chain2 ‹Below w.heap.size w _› hb3 (Nat.le_refl _); obtain ⟨l1, l2⟩ := HC.out _ hB3; clear hb3)
    | (go_at_call 222; refine (hF.out _).mono ?_; rintro e w4 ⟨rfl, hb4⟩; have hB4 := chain2 ‹Below w.heap.size w _› hb4 (Nat.le_refl _); obtain ⟨l1, l2⟩ := HC.out _ hB4; clear hb4))
 all_goals go_wp2
 all_goals go_ret
 all_goals exact ⟨rfl, ‹Below w.heap.size w _›⟩
theorem validPB (a : Ob) (r : Bool) (p : Value) (w : World) (hn : a.nodes ≤ 3000) (h : Hd w a p)
 (hV : ∀ b k W S, In S W → At W S a b k p → Calls Tryz.prog 168 #[.pointer (some ⟨b, k, none⟩)] W (RetB W r)) :
 Calls Tryz.prog 118 #[vO a p] w (RetB w r) := by
 have hS : In (Has w) w := In.has w
 obtain ⟨x0, x1, x2, x3, x4, x5, e⟩ := cells7 a p
 have hb : Below w.heap.size w (w.alloc (.cells #[x0, x1, x2, x3, x4, x5, p] 27)) := Below.alloc (Below.refl _ _) (Nat.le_refl _) _
 have hg := heap_alloc_new w (.cells #[x0, x1, x2, x3, x4, x5, p] 27)
 have hA : At (w.alloc (.cells #[x0, x1, x2, x3, x4, x5, p] 27)) (fun b => Has w b ∨ b = w.heap.size) a w.heap.size 0 p := by
  refine ⟨⟨.inr rfl, _, _, hg⟩, fun j u hj => ?_, (Pair.below h hS hb).more fun _ h => .inl h⟩
  rw [Nat.zero_add, cell_of_row _ _ _ _ _ _ hg, ← hj, e]
  simp
 have hS' : In (fun b => Has w b ∨ b = w.heap.size) (w.alloc (.cells #[x0, x1, x2, x3, x4, x5, p] 27)) := fun b hb => by
  rcases hb with hb | rfl
  · have := hS b hb; simp; omega
  · simp
 have N := nodesP a p _ (Has w) (hS.later hb.size) (Pair.below h hS hb) hn
 unfold vO at N
 rw [e] at N
 replace N := qh9 N
 have V : Hid (∀ wd, Below (w.heap.size + 1) (w.alloc (.cells #[x0, x1, x2, x3, x4, x5, p] 27)) wd → Calls Tryz.prog 168 #[.pointer (some ⟨w.heap.size, 0, none⟩)] wd (RetB wd r)) := fun wd hb' =>
  hV w.heap.size 0 wd _ (hS'.later hb'.size) (hA.below (B := w.heap.size + 1) (fun b hb => by have := hS' b hb; simpa using this) hb')
 unfold vO
 rw [e]
 have hz : (w.alloc (.cells #[x0, x1, x2, x3, x4, x5, p] 27)).heap.size = w.heap.size + 1 := by simp
 have hnn : (a.nodes : Int) ≤ 3000 := by omega
 clear e hA hS' h hS hg hV
 go_enter Tryz.func118, Tryz.ntmps118
 go_wp2_with fail
 refine N.out.mono ?_
 rintro e w1 ⟨rfl, hb1⟩
 rw [hz] at hb1
 have V1 := qh9 (V.out _ hb1)
 have HB := qh9 (hb.trans (hb1.mono (by omega)))
 clear hb1 hb V N hz
 go_wp2_with fail
 refine V1.out.mono ?_
 rintro e w2 ⟨rfl, hb2⟩
 have HB2 := qh9 (HB.out.trans (hb2.mono HB.out.size))
 clear hb2
 go_wp2
 go_ret
 exact ⟨rfl, HB2.out⟩
theorem nat_of_siz {x : Int} {k : Nat} (hk : 0 < k) (h : sizP (LA (BA (text x))) ≤ k) : x.natAbs < 10 ^ k := by
 rw [LA_BA] at h
 unfold sizP at h
 rw [body_len] at h
 have hv : mag (text x) = x.natAbs := by
  have h1 := val_text x
  unfold val at h1
  split at h1 <;> omega
 rw [hv] at h
 by_cases h0 : x.natAbs = 0
 · rw [h0]; exact Nat.pow_pos (by omega)
 · rw [if_neg h0] at h
   exact Nat.lt_of_lt_of_le (lt_pow_digs _) (pow_le h)
theorem numOk_bd100 {q : Rat} (h : NumOk q) : Bd 100 q := by
 obtain ⟨h1, h2⟩ := h
 unfold nt at h1
 unfold dt at h2
 exact ⟨nat_of_siz (by omega) h1, by have := nat_of_siz (by omega) h2; simpa using this⟩
theorem numOk_okN {q : Rat} (h : NumOk q) : okN q = true := by
 obtain ⟨h1, h2⟩ := h
 unfold sizP at h1 h2
 unfold okN shB
 rw [decide_eq_true (show ((body (LA (nt q))).length : Int) ≤ 100 by omega), decide_eq_true (show ((body (LA (dt q))).length : Int) ≤ 100 by omega)]
 rfl
theorem home_user {s : Sy.Sy} (h : Sy.homeM userM s = true) : s.1 = BA lispB ∨ s.1 = BA userB := by
 unfold Sy.homeM Sy.visM Sy.internM at h
 cases hf : Sy.findM userM s.1 with
 | none => rw [hf] at h; simp at h
 | some p =>
  obtain ⟨hp, hpc⟩ := findM_memU hf
  have ec := ba_of_list hpc
  simp only [userM, List.mem_cons, List.not_mem_nil, or_false] at hp
  rcases hp with rfl | rfl
  · exact .inl ec.symm
  · exact .inr ec.symm
theorem sym_user {p n : List UInt8} (h1 : Sy.symOk (BA p) (BA n) = true) (h2 : Sy.homeM userM (BA p, BA n) = true) : SyOk p n := by
 have e := home_user h2
 have hn : Sy.nameOk (BA n) = true := by
  unfold Sy.symOk at h1
  simp only [Bool.and_eq_true] at h1
  first | exact h1.2 | exact h1.1
 have := Sy.nameOk_yes hn
 rw [BA_size] at this
 refine ⟨?_, by omega, by omega⟩
 rcases e with e | e
 · exact .inl (by have := congrArg LA e; rwa [LA_BA, LA_BA] at this)
 · exact .inr (by have := congrArg LA e; rwa [LA_BA, LA_BA] at this)
theorem pr_bd : ∀ {o : Ob}, PrOkU userM o → o.bd 100
 | .num q, h => numOk_bd100 h
 | .str s, h => by have : s.length ≤ 200 := h; show s.length ≤ 2 * 100 + 20; omega
 | .sym p n, h => sym_user h.1 h.2
 | .cons a d, h => ⟨pr_bd h.1, pr_bd h.2⟩
theorem pr_home : ∀ {o : Ob}, PrOkU userM o → homeO userM o = true
 | .num q, h => rfl
 | .str s, h => rfl
 | .sym p n, h => h.2
 | .cons a d, h => by unfold homeO; rw [pr_home h.1, pr_home h.2]; rfl
theorem wellU : ∀ (a : Ob) (b k : Nat) (p : Value) (w : World) (S : Nat → Prop), PrOkU userM a → In S w → At w S a b k p →
 Calls Tryz.prog 168 #[.pointer (some ⟨b, k, none⟩)] w (RetB w true) := by
 intro a
 induction a with
 | num q =>
  intro b k p w S hwf hS h
  have := wellNum q b k p w S ((numOk_bd100 hwf).more (by decide)) hS h
  rwa [numOk_okN hwf] at this
 | str s =>
  intro b k p w S hwf hS h
  exact wellP (.str s) b k p w S (by have : s.length ≤ 200 := hwf; show s.length ≤ 2 * 90 + 20; omega) hS h
 | sym s n =>
  intro b k p w S hwf hS h
  exact wellP (.sym s n) b k p w S (sym_user hwf.1 hwf.2) hS h
 | cons a d iha ihd =>
  intro b k p w S hwf hS h
  obtain ⟨x0, x1, x2, x3, x4, x5, e, l0, l1, l2, l3, l4, l5, l6⟩ := h.cells
  obtain ⟨b', o', c', pa, pd, rfl, hc, hA, hD⟩ := h.2.2.parts
  have hlt : b < w.heap.size := hS b h.1.1
  rw [cellsO_f] at e
  simp only [List.cons.injEq, and_true] at e
  obtain ⟨rfl, rfl, rfl, rfl, rfl, rfl⟩ := e
  have CA : Hid (∀ wd, Below w.heap.size w wd → Calls Tryz.prog 168 #[.pointer (some ⟨b', o', none⟩)] wd (RetB wd true)) := fun wd hb => iha b' o' pa wd S hwf.1 (hS.later hb.size) (hA.below hS hb)
  have CD : Hid (∀ wd, Below w.heap.size w wd → Calls Tryz.prog 168 #[.pointer (some ⟨b', o' + 7, none⟩)] wd (RetB wd true)) := fun wd hb => ihd b' (o' + 7) pd wd S hwf.2 (hS.later hb.size) (hD.below hS hb)
  change w.cell? ⟨b, k, none⟩ = some (.int .i64 4) at l0
  have HO := qh9 (hasOnlyP b k w 4 ⟨#[]⟩ ⟨#[]⟩ ⟨#[]⟩ ⟨#[]⟩ ⟨#[]⟩ (some ⟨b', o', none⟩) 2 c' l0 l1 l2 l3 l4 l5 l6)
  have HC : Hid (∀ wd, Below w.heap.size w wd → wd.cell? ⟨b, k + 6, none⟩ = some (.slice (some ⟨b', o', none⟩) 2 c')) := fun wd hb => (hb.cell (p := ⟨b, k + 6, none⟩) hlt).trans l6
  clear l1 l2 l3 l4 l5 h hwf iha ihd hA hD
  go_enter Tryz.func168, Tryz.ntmps168
  go_wp2_with fail
  refine HO.out.mono ?_
  rintro e w1 ⟨rfl, hb1⟩
  have j6 := HC.out _ hb1
  have HB := qh9 hb1
  clear hb1 l0 l6
  go_wp2_with fail
  refine (CA.out _ HB.out).mono ?_
  rintro e w2 ⟨rfl, hb2⟩
  have HB2 := qc9 HB hb2
  have j7 := HC.out _ HB2.out
  clear hb2 j6
  go_wp2_with fail
  refine (CD.out _ HB2.out).mono ?_
  rintro e w3 ⟨rfl, hb3⟩
  have HB3 := qc9 HB2 hb3
  clear hb3 j7
  go_wp2
  go_ret
  exact ⟨rfl, HB3.out⟩
theorem validU (a : Ob) (p : Value) (w : World) (hn : a.nodes ≤ 3000) (h : Hd w a p) (hp : PrOkU userM a) :
 Calls Tryz.prog 118 #[vO a p] w (RetB w true) :=
 validPB a true p w hn h fun b k W S hS hA => wellU a b k p W S hp hS hA
section
variable (sym : Tk → (List UInt8 × List UInt8) × Int) (num : Tk → Rat)
mutual
theorem parF_bad : ∀ (f : Nat) (d : Int) (ts : List Tk) (e p : Int), parF sym num f d ts = .bad e p → e ≠ 0
 | 0, d, ts, e, p, h => by simp [parF] at h
 | f + 1, d, [], e, p, h => by simp [parF] at h
 | f + 1, d, t :: ts, e, p, h => by
  rw [parF] at h
  split at h
  · simp at h; omega
  split at h
  · simp at h
  split at h
  · split at h
    · simp at h
    · rename_i hs
      simp at h
      rw [← h.1]; exact hs
  split at h
  · simp at h
  split at h
  · simp at h; omega
  split at h
  · simp at h; omega
  split at h
  · split at h
    · simp at h
    · exact parF_bad f _ _ _ _ h
  · exact lisF_bad f _ _ _ _ _ h
theorem lisF_bad : ∀ (f : Nat) (d : Int) (acc : List Ob) (ts : List Tk) (e p : Int), lisF sym num f d acc ts = .bad e p → e ≠ 0
 | 0, d, acc, ts, e, p, h => by simp [lisF] at h
 | f + 1, d, acc, [], e, p, h => by simp [lisF] at h
 | f + 1, d, acc, t :: ts, e, p, h => by
  rw [lisF] at h
  split at h
  · simp at h
  split at h
  · split at h
    · simp at h
    · split at h
      · simp at h
      · split at h
        · simp at h; omega
        · simp at h; omega
    · exact parF_bad f _ _ _ _ h
  · split at h
    · exact lisF_bad f _ _ _ _ _ h
    · exact parF_bad f _ _ _ _ h
end
theorem allF_bad : ∀ (f : Nat) (acc : List (Ob × Int)) (ts : List Tk) (x : Int × Int), allF sym num f acc ts = (.error x, true) → x.1 ≠ 0
 | 0, acc, ts, x, h => by simp [allF] at h
 | f + 1, acc, [], x, h => by simp [allF] at h
 | f + 1, acc, t :: ts, x, h => by
  rw [allF] at h
  split at h
  · simp at h
  split at h
  · simp at h
    rw [← h]; show (2 : Int) ≠ 0; decide
  split at h
  · simp at h
  · rename_i e p hp
    simp at h
    rw [← h]
    exact parF_bad sym num _ _ _ _ _ hp
  · split at h
    · simp at h
      rw [← h]; show (2 : Int) ≠ 0; decide
    · exact allF_bad f _ _ _ h
end
theorem oneS_bad {l : List Sy.Pg} {cur s : ByteArray} {x : Int × Int} (h : oneS l cur s = .error x) : x.1 ≠ 0 := by
 unfold oneS at h
 split at h
 · rename_i y hy
   injection h with h; subst h
   unfold readS at hy
   split at hy
   · rename_i hs
     injection hy with hy; subst hy
     exact scanS_bad hs
   · rename_i ts hs
     have hw := (scanS_ok hs).1
     have he := readL_eq (symL l cur) numK ts hw
     rw [hy] at he
     exact allF_bad _ _ _ _ _ _ he
 · injection h with h; subst h; show (11 : Int) ≠ 0; decide
 · cases h
 · injection h with h; subst h; show (12 : Int) ≠ 0; decide
/-- The call added this text. -/
def RetG (B g : Nat) (lv : Value) (cur : ByteArray) (acc : List UInt8) (t : Spn) (w : World) (e : Ending) (w' : World) : Prop :=
 (∃ v, e = .returned v ∧ SpV w' (fun b => w.heap.size ≤ b ∧ b < w'.heap.size) t v) ∧ (∃ bp bv, PrW w' B g lv cur bp bv acc) ∧ KpG B g w w'
theorem Bx.kg {w w' : World} {B g k : Nat} {x : Array Value} (h : Bx w k x) (hk : KpG B g w w') (hg : k ≠ g) : Bx w' k x := (hk.keep k h.lt hg (fun cur fr e => by
 have h' := h
 unfold Bx at h'
 rw [h'] at e
 injection e with e
 injection e with _ e _
 exact absurd e (by decide))).trans h
/-- A span in a box. -/
def SpB (w : World) (g : Nat) (x y z : Value) : Prop := w.heap[g]? = some (.cells #[x, y, z] 107 (0, 0))
theorem SpB.lt {w : World} {g : Nat} {x y z : Value} (h : SpB w g x y z) : g < w.heap.size := Sy.blk_ltY h
theorem SpB.keep {w w' : World} {g : Nat} {x y z : Value} (h : SpB w g x y z) (hb : Below w.heap.size w w') : SpB w' g x y z := (hb.block g h.lt).trans h
theorem SpB.kg {w w' : World} {B g k : Nat} {x y z : Value} (h : SpB w k x y z) (hk : KpG B g w w') (hg : k ≠ g) : SpB w' k x y z := (hk.keep k h.lt hg (fun cur fr e => by
 have h' := h
 unfold SpB at h'
 rw [h'] at e
 injection e with e
 injection e with _ e _
 exact absurd e (by decide))).trans h
theorem SpB.run {w : World} {g : Nat} {x y z : Value} (hg : SpB w g x y z) : (loadVar 107 ⟨g, 0, none⟩).run Tryz.prog w = .ok (.agg #[x, y, z]) w :=
 run_loadVar_row w g 107 107 #[x, y, z] (0, 0) _ hg Tryz.underlying107 rfl (by kernel_rfl)
theorem SpB.store {ops : Array Oper} {rest : List Oper} {o : Oper} {a : Act} {w : World} {Q : Exit → Act → World → Prop} (x y : Operand) (ho : o.op = .store 107 x y) (hgd : o.guard = none)
 (g : Nat) (u v t u0 v0 t0 : Value) (hx : a.eval x = .pointer (some ⟨g, 0, none⟩)) (hy : a.eval y = .agg #[u, v, t]) (hg : SpB w g u0 v0 t0) (h1 : u.oneCell' = true) (h2 : v.oneCell' = true) (h3 : t.oneCell' = true)
 (h : wpList Tryz.prog ops Q rest (a.put o.dst undef) (w.setRow g #[u, v, t])) : wpList Tryz.prog ops Q (o :: rest) a w :=
 wpList_store_row hgd 107 x y ho g #[u, v, t] hx hy 107 #[u0, v0, t0] hg (by kernel_rfl) rfl (by simp [h1, h2, h3]) h
theorem retSp {fn : Func} {r0 : Tmp} {tmps : Array Value} {w : World} {g : Nat} {u v t : Value} {Q : Ending → World → Prop} (h : fn.results = #[.cell r0 107]) (h0 : tmps.getD r0 undef = .pointer (some ⟨g, 0, none⟩))
 (hg : SpB w g u v t) (hQ : Q (.returned (.agg #[u, v, t])) w) : bodyPost Tryz.prog fn Q Exit.ret ⟨tmps, []⟩ w := by
 have h0' : tmps[r0]?.getD undef = .pointer (some ⟨g, 0, none⟩) := by simpa using h0
 exact bodyPost_ret (v := .agg #[u, v, t]) (by simp [results, h, h0', asAddr, hg.run]) rfl hQ
theorem OwnB.typ {w w' : World} {B k : Nat} {v : Value} {l : List UInt8} (h : OwnB w B v l) (hk : ∀ j, j ≠ k → w'.heap[j]? = w.heap[j]?) (hn : ∀ cur fr, w.heap[k]? ≠ some (.cells cur 5 fr)) : OwnB w' B v l := by
 refine ⟨h.1, ?_⟩
 rcases h.2 with hn' | ⟨r, cap, cur, rfl, h1, hh, h2⟩
 · exact .inl hn'
 · refine .inr ⟨r, cap, cur, rfl, h1, (hk r ?_).trans hh, h2⟩
   rintro rfl
   exact hn _ _ hh
theorem SpB.noRow {w : World} {k : Nat} {x y z : Value} (h : SpB w k x y z) : ∀ cur fr, w.heap[k]? ≠ some (.cells cur 5 fr) := fun cur fr e => by
 unfold SpB at h
 rw [h] at e
 injection e with e
 injection e with _ e _
 exact absurd e (by decide)
theorem PrW.typ {w w' : World} {B g k : Nat} {lv : Value} {cur : ByteArray} {bp bv : Value} {acc : List UInt8} (h : PrW w B g lv cur bp bv acc) (hk : ∀ j, j ≠ k → w'.heap[j]? = w.heap[j]?) (hg : k ≠ g) (hn : ∀ cur fr, w.heap[k]? ≠ some (.cells cur 5 fr)) : PrW w' B g lv cur bp bv acc :=
 ⟨h.hB, (hk g (fun e => hg e.symm)).trans h.blk, h.ptr, h.own.typ hk hn⟩
theorem KpG.cell {B g : Nat} {a b : World} (h : KpG B g a b) (k i : Nat) (u : Value) (hk : a.heap.size ≤ k) (hB : B ≤ a.heap.size) : KpG B g a (b.setCell ⟨k, i, none⟩ u) :=
 ⟨h.bel.setCell (p := ⟨k, i, none⟩) (Nat.le_trans hB hk) u, fun j hj hg hn => (Below.heap_setCell b ⟨k, i, none⟩ u j (show j ≠ k by omega)).trans (h.keep j hj hg hn)⟩
theorem KpG.row {B g : Nat} {a b : World} (h : KpG B g a b) (k : Nat) (x : Array Value) (hk : a.heap.size ≤ k) (hB : B ≤ a.heap.size) : KpG B g a (b.setRow k x) :=
 ⟨below_setRow h.bel (Nat.le_trans hB hk) x, fun j hj hg hn => (setRow_other b k j x (show j ≠ k by omega)).trans (h.keep j hj hg hn)⟩
theorem objNumG (q : Rat) (p : Value) (w : World) (B g : Nat) (lv : Value) (cur : ByteArray) (bp bv : Value) (acc : List UInt8) (h : PrW w B g lv cur bp bv acc) (hB : B ≤ w.heap.size) (hb : Bd 900 q) (hs : acc.length ≤ 100000000) :
 Calls Tryz.prog 72 #[.pointer (some ⟨g, 0, none⟩), vO (.num q) p] w (RetG B g lv cur (acc ++ numS q) (.mk acc.length (acc.length + (numS q).length) []) w) := by
 have ea : cellsO (.num q) p = [.int .i64 1, .string (nt q), .string (dt q), .string ⟨#[]⟩, .string ⟨#[]⟩, .string ⟨#[]⟩, p] := rfl
 have T := Bx1.new w #[.int .i64 1, .string (nt q), .string (dt q), .string ⟨#[]⟩, .string ⟨#[]⟩, .string ⟨#[]⟩, p]
 have C := qh9 (fun X => numberTextP q p X hb)
 have H := qh9 h
 rw [vO_cells ea]
 go_enter Tryz.func72, Tryz.ntmps72
 go_upto_region 1 with fail
 generalize hW1 : ((w.alloc (.cells #[.int .i64 1, .string (nt q), .string (dt q), .string ⟨#[]⟩, .string ⟨#[]⟩, .string ⟨#[]⟩, p] 27)).alloc (.cells #[.int .i64 0, .int .i64 0, .slice none 0 0] 107)) = W1
 have hal : Below w.heap.size w W1 := by rw [← hW1]; exact T.bel.trans (Below.mono (below_al _ _) T.bel.size)
 have HB1 := qh9 hal
 have B0 : Hid (Bx W1 w.heap.size #[.int .i64 1, .string (nt q), .string (dt q), .string ⟨#[]⟩, .string ⟨#[]⟩, .string ⟨#[]⟩, p]) := by
  show Bx _ _ _
  rw [← hW1]
  exact T.b0.keep (below_al _ _)
 have R1 : Hid (SpB W1 (w.heap.size + 1) (.int .i64 0) (.int .i64 0) (.slice none 0 0)) := by
  show SpB _ _ _ _ _
  rw [← hW1]
  have e := heap_alloc_new (w.alloc (.cells #[.int .i64 1, .string (nt q), .string (dt q), .string ⟨#[]⟩, .string ⟨#[]⟩, .string ⟨#[]⟩, p] 27)) (.cells #[.int .i64 0, .int .i64 0, .slice none 0 0] 107)
  have e2 : (w.alloc (.cells #[.int .i64 1, .string (nt q), .string (dt q), .string ⟨#[]⟩, .string ⟨#[]⟩, .string ⟨#[]⟩, p] 27)).heap.size = w.heap.size + 1 := by simp
  rw [e2] at e
  exact e
 rw [vO_cells ea] at C
 have H1 := qh9 (H.out.keep hal)
 clear T hal hW1 ea
 have hgl := H.out.lt
 have gne1 : w.heap.size + 1 ≠ g := by omega
 have gne2 : W1.heap.size ≠ g := by have := R1.out.lt; omega
 have gne3 : W1.heap.size ≠ w.heap.size + 1 := by have := R1.out.lt; omega
 have G1 := qh9 gne1
 have G2 := qh9 gne2
 have G3 := qh9 gne3
 have G4 : Hid (w.heap.size ≤ W1.heap.size) := HB1.out.size
 have ACL := qh9 hs
 have hzn : (BA (numS q)).size ≤ 2000 := by
  rw [numS_bytes]
  have z1 := bd_nt hb
  have z2 := bd_dt hb
  have z3 : (⟨#[47]⟩ : ByteArray).size = 1 := rfl
  split
  · omega
  · rw [ByteArray.size_append, ByteArray.size_append]; omega
 have ZN := qh9 hzn
 have hBg := H.out.hB
 have HBW := qh9 hB
 clear H h gne1 gne2 gne3 hs hb hzn hgl hB
 go_wp2_with fail
 with_reducible refine (lenG _ B g lv cur bp bv acc H1.out).mono ?_
 rintro e w2 ⟨rfl, rfl⟩
 go_upto_region 2 with fail
 generalize hW2 : w2.alloc (.cells #[.int .i64 (acc.length : Int), .int .i64 0, .slice none 0 0] 107) = W2
 have hal : Below w2.heap.size w2 W2 := by rw [← hW2]; exact below_al _ _
 have R2 : Hid (SpB W2 w2.heap.size (.int .i64 (acc.length : Int)) (.int .i64 0) (.slice none 0 0)) := by
  show SpB _ _ _ _ _
  rw [← hW2]
  exact heap_alloc_new _ _
 replace B0 := qh9 (B0.out.keep hal)
 replace H1 := qh9 (H1.out.keep hal)
 replace R1 := qh9 (R1.out.keep hal)
 replace HB1 := qc9 HB1 hal
 generalize w2.heap.size = k2 at R2 G2 G3 G4 ⊢
 clear hal hW2
 obtain ⟨m0, m1, m2, m3, m4, m5, m6⟩ := Bx.c B0.out
 go_upto_region 4 with fail
 have BD := qh9 (B0.out.keep ((Below.refl W2.heap.size W2).drew))
 have HD := qh9 (H1.out.keep ((Below.refl W2.heap.size W2).drew))
 obtain ⟨n0, n1, n2, n3, n4, n5, n6⟩ := Bx.c BD.out
 go_region_with (first | (go_at_call 123; (with_reducible refine (C.out _).mono ?_); rintro e w3 ⟨rfl, hb3⟩; have HP := qh9 (HD.out.keep hb3); have K3 := qh9 ((Below.drew (Below.refl W2.heap.size W2)).trans hb3)) | (go_at_call 122; refine (writeG _ B g lv cur _ _ acc (BA (numS q)) HP.out (by have := ZN.out; have := ACL.out; omega)).mono ?_; rintro e w4 ⟨rfl, ⟨bv4, hp4⟩, hk4⟩; have HP4 := qh9 hp4; have K4 := qh9 hk4))
 have P4 : Hid (PrW w4 B g lv cur (.pointer (some ⟨g, 2, none⟩)) bv4 (acc ++ numS q)) := by
  have := HP4.out
  rwa [LA_BA] at this
 have Q1 := qh9 ((R1.out.keep K3.out).kg K4.out G1.out)
 have Q2 := qh9 ((R2.out.keep K3.out).kg K4.out G2.out)
 have KA := qh9 (((KpG.of (g := g) HB1.out HBW.out).trans (KpG.of (g := g) K3.out (Nat.le_trans HBW.out HB1.out.size))).trans K4.out)
 go_wp2_with fail
 with_reducible refine (lenG _ B g lv cur _ bv4 _ P4.out).mono ?_
 rintro e w5 ⟨rfl, rfl⟩
 have u1 : w5.cell? ⟨k2, 1, none⟩ = some (.int .i64 0) := by rw [cell_of_row _ _ _ _ _ _ Q2.out]; rfl
 have u2 : w5.frozen? ⟨k2, 1, none⟩ = false := by
  have e := Q2.out
  unfold SpB at e
  simp [World.frozen?, e]
 go_upto_region 12 with fail
 have kk : ∀ j, j ≠ k2 → (w5.setCell ⟨k2, 1, none⟩ (.int .i64 ((acc.length : Int) + ((numS q).length : Int)))).heap[j]? = w5.heap[j]? := fun j hj => Below.heap_setCell w5 ⟨k2, 1, none⟩ _ j hj
 have V2 : Hid (SpB (w5.setCell ⟨k2, 1, none⟩ (.int .i64 ((acc.length : Int) + ((numS q).length : Int)))) k2 (.int .i64 (acc.length : Int)) (.int .i64 ((acc.length : Int) + ((numS q).length : Int))) (.slice none 0 0)) := by
  have e := Q2.out
  show SpB _ _ _ _ _
  unfold SpB at e ⊢
  simp [World.setCell, Array.getElem?_modify, e]
 have V1 : Hid (SpB (w5.setCell ⟨k2, 1, none⟩ (.int .i64 ((acc.length : Int) + ((numS q).length : Int)))) (w.heap.size + 1) (.int .i64 0) (.int .i64 0) (.slice none 0 0)) := (kk _ (fun e => G3.out e.symm)).trans Q1.out
 have P6 := qh9 (P4.out.typ kk G2.out Q2.out.noRow)
 have K6 := qh9 (KA.out.cell k2 1 (.int .i64 ((acc.length : Int) + ((numS q).length : Int))) G4.out HBW.out)
 clear u1 u2 m0 m1 m2 m3 m4 m5 m6 kk
 generalize w5.setCell ⟨k2, 1, none⟩ (.int .i64 ((acc.length : Int) + ((numS q).length : Int))) = W6 at V2 V1 P6 K6 ⊢
 have l0 : W6.cell? ⟨k2, 0, none⟩ = some (.int .i64 (acc.length : Int)) := by rw [cell_of_row _ _ _ _ _ _ V2.out]; rfl
 have l1 : W6.cell? ⟨k2, 1, none⟩ = some (.int .i64 ((acc.length : Int) + ((numS q).length : Int))) := by rw [cell_of_row _ _ _ _ _ _ V2.out]; rfl
 have l2 : W6.cell? ⟨k2, 2, none⟩ = some (.slice none 0 0) := by rw [cell_of_row _ _ _ _ _ _ V2.out]; rfl
 have kk : ∀ x j, j ≠ w.heap.size + 1 → (W6.setRow (w.heap.size + 1) x).heap[j]? = W6.heap[j]? := fun x j hj => setRow_other W6 _ j x hj
 go_wp2_with ((with_reducible refine SpB.store (.tmp 4) (.tmp 58) ?_ ?_ (w.heap.size + 1) (.int .i64 (acc.length : Int)) (.int .i64 ((acc.length : Int) + ((numS q).length : Int))) (.slice none 0 0) (.int .i64 0) (.int .i64 0) (.slice none 0 0) ?_ ?_ V1.out ?_ ?_ ?_ ?_); rfl; rfl; rfl; rfl; rfl; rfl; rfl)
 exact retSp rfl rfl (setRow_heap _ _ _ _ _ _ V1.out) ⟨⟨_, rfl, SpV.leaf2 _ _ acc.length (numS q).length⟩, ⟨_, _, P6.out.typ (kk _) G1.out V1.out.noRow⟩, K6.out.row _ _ (by omega) HBW.out⟩
theorem objStrG (q : List UInt8) (p : Value) (w : World) (B g : Nat) (lv : Value) (cur : ByteArray) (bp bv : Value) (acc : List UInt8) (h : PrW w B g lv cur bp bv acc) (hB : B ≤ w.heap.size) (hT : EscT w) (hb : q.length ≤ 1000000) (hs : acc.length ≤ 100000000) :
 Calls Tryz.prog 72 #[.pointer (some ⟨g, 0, none⟩), vO (.str q) p] w (RetG B g lv cur (acc ++ escL 34 q) (.mk acc.length (acc.length + (escL 34 q).length) []) w) := by
 have ea : cellsO (.str q) p = [.int .i64 3, .string ⟨#[]⟩, .string ⟨#[]⟩, .string ⟨#[]⟩, .string ⟨#[]⟩, .string (BA q), p] := rfl
 have T := Bx1.new w #[.int .i64 3, .string ⟨#[]⟩, .string ⟨#[]⟩, .string ⟨#[]⟩, .string ⟨#[]⟩, .string (BA q), p]
 have C : Hid (∀ X, Below w.heap.size w X → Calls Tryz.prog 124 #[.int .i64 0, .string (BA q)] X (RetTU X (BA (escL 34 q)))) := fun X h => by
  have := enclose0 (BA q) X (hT.keep h).1 (by rw [BA_size]; omega)
  rwa [LA_BA] at this
 have H := qh9 h
 rw [vO_cells ea]
 go_enter Tryz.func72, Tryz.ntmps72
 go_upto_region 1 with fail
 generalize hW1 : ((w.alloc (.cells #[.int .i64 3, .string ⟨#[]⟩, .string ⟨#[]⟩, .string ⟨#[]⟩, .string ⟨#[]⟩, .string (BA q), p] 27)).alloc (.cells #[.int .i64 0, .int .i64 0, .slice none 0 0] 107)) = W1
 have hal : Below w.heap.size w W1 := by rw [← hW1]; exact T.bel.trans (Below.mono (below_al _ _) T.bel.size)
 have HB1 := qh9 hal
 have B0 : Hid (Bx W1 w.heap.size #[.int .i64 3, .string ⟨#[]⟩, .string ⟨#[]⟩, .string ⟨#[]⟩, .string ⟨#[]⟩, .string (BA q), p]) := by
  show Bx _ _ _
  rw [← hW1]
  exact T.b0.keep (below_al _ _)
 have R1 : Hid (SpB W1 (w.heap.size + 1) (.int .i64 0) (.int .i64 0) (.slice none 0 0)) := by
  show SpB _ _ _ _ _
  rw [← hW1]
  have e := heap_alloc_new (w.alloc (.cells #[.int .i64 3, .string ⟨#[]⟩, .string ⟨#[]⟩, .string ⟨#[]⟩, .string ⟨#[]⟩, .string (BA q), p] 27)) (.cells #[.int .i64 0, .int .i64 0, .slice none 0 0] 107)
  have e2 : (w.alloc (.cells #[.int .i64 3, .string ⟨#[]⟩, .string ⟨#[]⟩, .string ⟨#[]⟩, .string ⟨#[]⟩, .string (BA q), p] 27)).heap.size = w.heap.size + 1 := by simp
  rw [e2] at e
  exact e
 have H1 := qh9 (H.out.keep hal)
 clear T hal hW1 ea
 have hgl := H.out.lt
 have gne1 : w.heap.size + 1 ≠ g := by omega
 have gne2 : W1.heap.size ≠ g := by have := R1.out.lt; omega
 have gne3 : W1.heap.size ≠ w.heap.size + 1 := by have := R1.out.lt; omega
 have G1 := qh9 gne1
 have G2 := qh9 gne2
 have G3 := qh9 gne3
 have G4 : Hid (w.heap.size ≤ W1.heap.size) := HB1.out.size
 have ACL := qh9 hs
 have hzn : (BA (escL 34 q)).size ≤ 2000002 := by
  rw [BA_size]
  have := escL_len 34 q
  omega
 have ZN := qh9 hzn
 have hBg := H.out.hB
 have HBW := qh9 hB
 clear H h gne1 gne2 gne3 hs hb hzn hgl hB hT
 go_wp2_with fail
 with_reducible refine (lenG _ B g lv cur bp bv acc H1.out).mono ?_
 rintro e w2 ⟨rfl, rfl⟩
 go_upto_region 2 with fail
 generalize hW2 : w2.alloc (.cells #[.int .i64 (acc.length : Int), .int .i64 0, .slice none 0 0] 107) = W2
 have hal : Below w2.heap.size w2 W2 := by rw [← hW2]; exact below_al _ _
 have R2 : Hid (SpB W2 w2.heap.size (.int .i64 (acc.length : Int)) (.int .i64 0) (.slice none 0 0)) := by
  show SpB _ _ _ _ _
  rw [← hW2]
  exact heap_alloc_new _ _
 replace B0 := qh9 (B0.out.keep hal)
 replace H1 := qh9 (H1.out.keep hal)
 replace R1 := qh9 (R1.out.keep hal)
 replace HB1 := qc9 HB1 hal
 generalize w2.heap.size = k2 at R2 G2 G3 G4 ⊢
 clear hal hW2
 obtain ⟨m0, m1, m2, m3, m4, m5, m6⟩ := Bx.c B0.out
 go_upto_region 6 with fail
 have BD := qh9 (B0.out.keep ((Below.refl W2.heap.size W2).drew))
 have HD := qh9 (H1.out.keep ((Below.refl W2.heap.size W2).drew))
 obtain ⟨n0, n1, n2, n3, n4, n5, n6⟩ := Bx.c BD.out
 go_region_with (first | (go_at_call 124; (with_reducible refine (C.out _ (Below.drew HB1.out)).mono ?_); rintro e w3 ⟨rfl, hb3⟩; have HP := qh9 (HD.out.keep hb3); have K3 := qh9 ((Below.drew (Below.refl W2.heap.size W2)).trans hb3)) | (go_at_call 122; refine (writeG _ B g lv cur _ _ acc (BA (escL 34 q)) HP.out (by have := ZN.out; have := ACL.out; omega)).mono ?_; rintro e w4 ⟨rfl, ⟨bv4, hp4⟩, hk4⟩; have HP4 := qh9 hp4; have K4 := qh9 hk4))
 have P4 : Hid (PrW w4 B g lv cur (.pointer (some ⟨g, 2, none⟩)) bv4 (acc ++ escL 34 q)) := by
  have := HP4.out
  rwa [LA_BA] at this
 have Q1 := qh9 ((R1.out.keep K3.out).kg K4.out G1.out)
 have Q2 := qh9 ((R2.out.keep K3.out).kg K4.out G2.out)
 have KA := qh9 (((KpG.of (g := g) HB1.out HBW.out).trans (KpG.of (g := g) K3.out (Nat.le_trans HBW.out HB1.out.size))).trans K4.out)
 go_wp2_with fail
 with_reducible refine (lenG _ B g lv cur _ bv4 _ P4.out).mono ?_
 rintro e w5 ⟨rfl, rfl⟩
 have u1 : w5.cell? ⟨k2, 1, none⟩ = some (.int .i64 0) := by rw [cell_of_row _ _ _ _ _ _ Q2.out]; rfl
 have u2 : w5.frozen? ⟨k2, 1, none⟩ = false := by
  have e := Q2.out
  unfold SpB at e
  simp [World.frozen?, e]
 go_upto_region 12 with fail
 have kk : ∀ j, j ≠ k2 → (w5.setCell ⟨k2, 1, none⟩ (.int .i64 ((acc.length : Int) + ((escL 34 q).length : Int)))).heap[j]? = w5.heap[j]? := fun j hj => Below.heap_setCell w5 ⟨k2, 1, none⟩ _ j hj
 have V2 : Hid (SpB (w5.setCell ⟨k2, 1, none⟩ (.int .i64 ((acc.length : Int) + ((escL 34 q).length : Int)))) k2 (.int .i64 (acc.length : Int)) (.int .i64 ((acc.length : Int) + ((escL 34 q).length : Int))) (.slice none 0 0)) := by
  have e := Q2.out
  show SpB _ _ _ _ _
  unfold SpB at e ⊢
  simp [World.setCell, Array.getElem?_modify, e]
 have V1 : Hid (SpB (w5.setCell ⟨k2, 1, none⟩ (.int .i64 ((acc.length : Int) + ((escL 34 q).length : Int)))) (w.heap.size + 1) (.int .i64 0) (.int .i64 0) (.slice none 0 0)) := (kk _ (fun e => G3.out e.symm)).trans Q1.out
 have P6 := qh9 (P4.out.typ kk G2.out Q2.out.noRow)
 have K6 := qh9 (KA.out.cell k2 1 (.int .i64 ((acc.length : Int) + ((escL 34 q).length : Int))) G4.out HBW.out)
 clear u1 u2 m0 m1 m2 m3 m4 m5 m6 kk
 generalize w5.setCell ⟨k2, 1, none⟩ (.int .i64 ((acc.length : Int) + ((escL 34 q).length : Int))) = W6 at V2 V1 P6 K6 ⊢
 have l0 : W6.cell? ⟨k2, 0, none⟩ = some (.int .i64 (acc.length : Int)) := by rw [cell_of_row _ _ _ _ _ _ V2.out]; rfl
 have l1 : W6.cell? ⟨k2, 1, none⟩ = some (.int .i64 ((acc.length : Int) + ((escL 34 q).length : Int))) := by rw [cell_of_row _ _ _ _ _ _ V2.out]; rfl
 have l2 : W6.cell? ⟨k2, 2, none⟩ = some (.slice none 0 0) := by rw [cell_of_row _ _ _ _ _ _ V2.out]; rfl
 have kk : ∀ x j, j ≠ w.heap.size + 1 → (W6.setRow (w.heap.size + 1) x).heap[j]? = W6.heap[j]? := fun x j hj => setRow_other W6 _ j x hj
 go_wp2_with ((with_reducible refine SpB.store (.tmp 4) (.tmp 58) ?_ ?_ (w.heap.size + 1) (.int .i64 (acc.length : Int)) (.int .i64 ((acc.length : Int) + ((escL 34 q).length : Int))) (.slice none 0 0) (.int .i64 0) (.int .i64 0) (.slice none 0 0) ?_ ?_ V1.out ?_ ?_ ?_ ?_); rfl; rfl; rfl; rfl; rfl; rfl; rfl)
 exact retSp rfl rfl (setRow_heap _ _ _ _ _ _ V1.out) ⟨⟨_, rfl, SpV.leaf2 _ _ acc.length (escL 34 q).length⟩, ⟨_, _, P6.out.typ (kk _) G1.out V1.out.noRow⟩, K6.out.row _ _ (by omega) HBW.out⟩
theorem objSymG (x y q : List UInt8) (p : Value) (w : World) (B g : Nat) (lv : Value) (cur : ByteArray) (bp bv : Value) (acc : List UInt8) (h : PrW w B g lv cur bp bv acc) (hB : B ≤ w.heap.size) (hb : q.length ≤ 1000000) (hC : ∀ X, Below w.heap.size w X → Calls Tryz.prog 125 #[lv, .string cur, .agg #[.string (BA x), .string (BA y)]] X (RetTU X (BA q))) (hs : acc.length ≤ 100000000) :
 Calls Tryz.prog 72 #[.pointer (some ⟨g, 0, none⟩), vO (.sym x y) p] w (RetG B g lv cur (acc ++ q) (.mk acc.length (acc.length + q.length) []) w) := by
 have ea : cellsO (.sym x y) p = [.int .i64 2, .string ⟨#[]⟩, .string ⟨#[]⟩, .string (BA x), .string (BA y), .string ⟨#[]⟩, p] := rfl
 have T := Bx1.new w #[.int .i64 2, .string ⟨#[]⟩, .string ⟨#[]⟩, .string (BA x), .string (BA y), .string ⟨#[]⟩, p]
 have C := qh9 hC
 have H := qh9 h
 rw [vO_cells ea]
 go_enter Tryz.func72, Tryz.ntmps72
 go_upto_region 1 with fail
 generalize hW1 : ((w.alloc (.cells #[.int .i64 2, .string ⟨#[]⟩, .string ⟨#[]⟩, .string (BA x), .string (BA y), .string ⟨#[]⟩, p] 27)).alloc (.cells #[.int .i64 0, .int .i64 0, .slice none 0 0] 107)) = W1
 have hal : Below w.heap.size w W1 := by rw [← hW1]; exact T.bel.trans (Below.mono (below_al _ _) T.bel.size)
 have HB1 := qh9 hal
 have B0 : Hid (Bx W1 w.heap.size #[.int .i64 2, .string ⟨#[]⟩, .string ⟨#[]⟩, .string (BA x), .string (BA y), .string ⟨#[]⟩, p]) := by
  show Bx _ _ _
  rw [← hW1]
  exact T.b0.keep (below_al _ _)
 have R1 : Hid (SpB W1 (w.heap.size + 1) (.int .i64 0) (.int .i64 0) (.slice none 0 0)) := by
  show SpB _ _ _ _ _
  rw [← hW1]
  have e := heap_alloc_new (w.alloc (.cells #[.int .i64 2, .string ⟨#[]⟩, .string ⟨#[]⟩, .string (BA x), .string (BA y), .string ⟨#[]⟩, p] 27)) (.cells #[.int .i64 0, .int .i64 0, .slice none 0 0] 107)
  have e2 : (w.alloc (.cells #[.int .i64 2, .string ⟨#[]⟩, .string ⟨#[]⟩, .string (BA x), .string (BA y), .string ⟨#[]⟩, p] 27)).heap.size = w.heap.size + 1 := by simp
  rw [e2] at e
  exact e
 have H1 := qh9 (H.out.keep hal)
 clear T hal hW1 ea
 have hgl := H.out.lt
 have gne1 : w.heap.size + 1 ≠ g := by omega
 have gne2 : W1.heap.size ≠ g := by have := R1.out.lt; omega
 have gne3 : W1.heap.size ≠ w.heap.size + 1 := by have := R1.out.lt; omega
 have G1 := qh9 gne1
 have G2 := qh9 gne2
 have G3 := qh9 gne3
 have G4 : Hid (w.heap.size ≤ W1.heap.size) := HB1.out.size
 have ACL := qh9 hs
 have hzn : (BA q).size ≤ 1000000 := by
  rw [BA_size]
  omega
 have ZN := qh9 hzn
 have hBg := H.out.hB
 have HBW := qh9 hB
 clear H h gne1 gne2 gne3 hs hb hzn hgl hB hC
 go_wp2_with fail
 with_reducible refine (lenG _ B g lv cur bp bv acc H1.out).mono ?_
 rintro e w2 ⟨rfl, rfl⟩
 go_upto_region 2 with fail
 generalize hW2 : w2.alloc (.cells #[.int .i64 (acc.length : Int), .int .i64 0, .slice none 0 0] 107) = W2
 have hal : Below w2.heap.size w2 W2 := by rw [← hW2]; exact below_al _ _
 have R2 : Hid (SpB W2 w2.heap.size (.int .i64 (acc.length : Int)) (.int .i64 0) (.slice none 0 0)) := by
  show SpB _ _ _ _ _
  rw [← hW2]
  exact heap_alloc_new _ _
 replace B0 := qh9 (B0.out.keep hal)
 replace H1 := qh9 (H1.out.keep hal)
 replace R1 := qh9 (R1.out.keep hal)
 replace HB1 := qc9 HB1 hal
 generalize w2.heap.size = k2 at R2 G2 G3 G4 ⊢
 clear hal hW2
 obtain ⟨m0, m1, m2, m3, m4, m5, m6⟩ := Bx.c B0.out
 go_upto_region 8 with fail
 have g0 := (H1.out.keep ((Below.refl W2.heap.size W2).drew)).c0
 have g1 := (H1.out.keep ((Below.refl W2.heap.size W2).drew)).c1
 have g00 := H1.out.c0
 have g10 := H1.out.c1
 have BD := qh9 (B0.out.keep ((Below.refl W2.heap.size W2).drew))
 have HD := qh9 (H1.out.keep ((Below.refl W2.heap.size W2).drew))
 obtain ⟨n0, n1, n2, n3, n4, n5, n6⟩ := Bx.c BD.out
 go_region_with (first | (go_at_call 125; (with_reducible refine (C.out _ (Below.drew HB1.out)).mono ?_); rintro e w3 ⟨rfl, hb3⟩; have HP := qh9 (HD.out.keep hb3); have K3 := qh9 ((Below.drew (Below.refl W2.heap.size W2)).trans hb3)) | (go_at_call 122; refine (writeG _ B g lv cur _ _ acc (BA (q)) HP.out (by have := ZN.out; have := ACL.out; omega)).mono ?_; rintro e w4 ⟨rfl, ⟨bv4, hp4⟩, hk4⟩; have HP4 := qh9 hp4; have K4 := qh9 hk4))
 all_goals
  have P4 : Hid (PrW w4 B g lv cur (.pointer (some ⟨g, 2, none⟩)) bv4 (acc ++ q)) := by
   have := HP4.out
   rwa [LA_BA] at this
  have Q1 := qh9 ((R1.out.keep K3.out).kg K4.out G1.out)
  have Q2 := qh9 ((R2.out.keep K3.out).kg K4.out G2.out)
  have KA := qh9 (((KpG.of (g := g) HB1.out HBW.out).trans (KpG.of (g := g) K3.out (Nat.le_trans HBW.out HB1.out.size))).trans K4.out)
  go_wp2_with fail
  with_reducible refine (lenG _ B g lv cur _ bv4 _ P4.out).mono ?_
  rintro e w5 ⟨rfl, rfl⟩
  have u1 : w5.cell? ⟨k2, 1, none⟩ = some (.int .i64 0) := by rw [cell_of_row _ _ _ _ _ _ Q2.out]; rfl
  have u2 : w5.frozen? ⟨k2, 1, none⟩ = false := by
   have e := Q2.out
   unfold SpB at e
   simp [World.frozen?, e]
  go_upto_region 12 with fail
  have kk : ∀ j, j ≠ k2 → (w5.setCell ⟨k2, 1, none⟩ (.int .i64 ((acc.length : Int) + ((q).length : Int)))).heap[j]? = w5.heap[j]? := fun j hj => Below.heap_setCell w5 ⟨k2, 1, none⟩ _ j hj
  have V2 : Hid (SpB (w5.setCell ⟨k2, 1, none⟩ (.int .i64 ((acc.length : Int) + ((q).length : Int)))) k2 (.int .i64 (acc.length : Int)) (.int .i64 ((acc.length : Int) + ((q).length : Int))) (.slice none 0 0)) := by
   have e := Q2.out
   show SpB _ _ _ _ _
   unfold SpB at e ⊢
   simp [World.setCell, Array.getElem?_modify, e]
  have V1 : Hid (SpB (w5.setCell ⟨k2, 1, none⟩ (.int .i64 ((acc.length : Int) + ((q).length : Int)))) (w.heap.size + 1) (.int .i64 0) (.int .i64 0) (.slice none 0 0)) := (kk _ (fun e => G3.out e.symm)).trans Q1.out
  have P6 := qh9 (P4.out.typ kk G2.out Q2.out.noRow)
  have K6 := qh9 (KA.out.cell k2 1 (.int .i64 ((acc.length : Int) + ((q).length : Int))) G4.out HBW.out)
  clear u1 u2 m0 m1 m2 m3 m4 m5 m6 kk
  generalize w5.setCell ⟨k2, 1, none⟩ (.int .i64 ((acc.length : Int) + ((q).length : Int))) = W6 at V2 V1 P6 K6 ⊢
  have l0 : W6.cell? ⟨k2, 0, none⟩ = some (.int .i64 (acc.length : Int)) := by rw [cell_of_row _ _ _ _ _ _ V2.out]; rfl
  have l1 : W6.cell? ⟨k2, 1, none⟩ = some (.int .i64 ((acc.length : Int) + ((q).length : Int))) := by rw [cell_of_row _ _ _ _ _ _ V2.out]; rfl
  have l2 : W6.cell? ⟨k2, 2, none⟩ = some (.slice none 0 0) := by rw [cell_of_row _ _ _ _ _ _ V2.out]; rfl
  have kk : ∀ x j, j ≠ w.heap.size + 1 → (W6.setRow (w.heap.size + 1) x).heap[j]? = W6.heap[j]? := fun x j hj => setRow_other W6 _ j x hj
  go_wp2_with ((with_reducible refine SpB.store (.tmp 4) (.tmp 58) ?_ ?_ (w.heap.size + 1) (.int .i64 (acc.length : Int)) (.int .i64 ((acc.length : Int) + ((q).length : Int))) (.slice none 0 0) (.int .i64 0) (.int .i64 0) (.slice none 0 0) ?_ ?_ V1.out ?_ ?_ ?_ ?_); rfl; rfl; rfl; rfl; rfl; rfl; rfl)
  exact retSp rfl rfl (setRow_heap _ _ _ _ _ _ V1.out) ⟨⟨_, rfl, SpV.leaf2 _ _ acc.length q.length⟩, ⟨_, _, P6.out.typ (kk _) G1.out V1.out.noRow⟩, K6.out.row _ _ (by omega) HBW.out⟩
/-- The printing adds the text of this object, wherever it stands. -/
def PrC (W0 : World) (g : Nat) (l : List Sy.Pg) (lv : Value) (cur : ByteArray) (a : Ob) : Prop :=
 ∀ (w : World) (bp bv p : Value) (acc : List UInt8), Below W0.heap.size W0 w → PrW w W0.heap.size g lv cur bp bv acc → Hd W0 a p → acc.length + (prO (nmU l cur) a).length ≤ 100000000 →
  Calls Tryz.prog 72 #[.pointer (some ⟨g, 0, none⟩), vO a p] w (RetG W0.heap.size g lv cur (acc ++ prO (nmU l cur) a) (spU (nmU l cur) acc.length a) w)
theorem PrC.go {W0 : World} {g : Nat} {l : List Sy.Pg} {lv : Value} {cur : ByteArray} {a : Ob} (h : PrC W0 g l lv cur a) (w : World) (bp bv p : Value) (acc : List UInt8) (h1 : Below W0.heap.size W0 w) (h2 : PrW w W0.heap.size g lv cur bp bv acc) (h3 : Hd W0 a p) (h4 : acc.length + (prO (nmU l cur) a).length ≤ 100000000) :
 Calls Tryz.prog 72 #[.pointer (some ⟨g, 0, none⟩), vO a p] w (RetG W0.heap.size g lv cur (acc ++ prO (nmU l cur) a) (spU (nmU l cur) acc.length a) w) := h w bp bv p acc h1 h2 h3 h4
/-- The call added this text, and returned the spans of these elements. -/
def RetGE (B g : Nat) (lv : Value) (cur : ByteArray) (acc : List UInt8) (l : List Spn) (w : World) (e : Ending) (w' : World) : Prop :=
 (∃ v, e = .returned v ∧ SpL w' (fun b => w.heap.size ≤ b ∧ b < w'.heap.size) l v) ∧ (∃ bp bv, PrW w' B g lv cur bp bv acc) ∧ KpG B g w w'
theorem mergeU {G P : Prop} (g : G) (h : G → P) : P := h g
theorem Bx.frU {W : World} {g : Nat} {x : Array Value} (h : Bx W g x) (i : Nat) : W.frozen? ⟨g, i, none⟩ = false := by
 unfold Bx at h
 simp [World.frozen?, h]
theorem infoSp : ∃ i, Tryz.prog.info? 107 = some i ∧ i.zero = some (.agg #[.int .i64 0, .int .i64 0, .slice none 0 0]) ∧ i.size = 3 ∧ i.bytes = 40 := info_of (P := Tryz.prog) (t := 107) (z := .agg #[.int .i64 0, .int .i64 0, .slice none 0 0]) (a := 3) (b := 40) (by kernel_rfl)
theorem SpL.one {w : World} {S : Nat → Prop} {l : List Spn} {v : Value} (h : SpL w S l v) : v.oneCell' = true := by
 cases h <;> rfl
/-- The rest of the text of a list, c ahead of it. -/
def restU (nm : List UInt8 → List UInt8 → List UInt8) (c : UInt8) : Ob → List UInt8
 | .cons a d => c :: (prO nm a ++ prT nm d)
 | o => prT nm o
theorem restU_sp (nm : List UInt8 → List UInt8 → List UInt8) (t : Ob) : restU nm 32 t = prT nm t := by
 cases t <;> (unfold restU; try rfl)
theorem spE_flat (nm : List UInt8 → List UInt8 → List UInt8) (n : Nat) {t : Ob} (h : t.isCons = false) : spE nm n t = [] := by
 cases t with
 | cons a d => exact absurd h (by simp [Ob.isCons])
 | _ => rfl
theorem spE_len (nm : List UInt8 → List UInt8 → List UInt8) : ∀ (n : Nat) (t : Ob), (spE nm n t).length ≤ t.nodes
 | n, .cons a d => by
  have := spE_len nm (n + 1 + (prO nm a).length) d
  unfold spE
  show (spE nm (n + 1 + (prO nm a).length) d).length + 1 ≤ 1 + a.nodes + d.nodes
  omega
 | _, .num _ => by simp [spE]
 | _, .str _ => by simp [spE]
 | _, .sym _ _ => by simp [spE]
theorem kind_flat {t : Ob} (h : t.isCons = false) (q : Value) : ∃ (k : Int) (x1 x2 x3 x4 x5 : Value), cellsO t q = [.int .i64 k, x1, x2, x3, x4, x5, q] ∧ (k == 4) = false := by
 cases t with
 | cons a d => exact absurd h (by simp [Ob.isCons])
 | num x => exact ⟨1, _, _, _, _, _, rfl, rfl⟩
 | str s => exact ⟨3, _, _, _, _, _, rfl, rfl⟩
 | sym x y => exact ⟨2, _, _, _, _, _, rfl, rfl⟩
/-- Between rounds: the rest t in the box, the elements' spans in sl, A the text so far. -/
structure LsW (W0 w : World) (g : Nat) (l : List Sy.Pg) (lv : Value) (cur : ByteArray) (full : List UInt8) (L : List Spn) (pr : Bool) (N k : Nat) (wr : World) (sl : Value) (c : UInt8) (t : Ob) (q : Value) (xs : List (Spn × Value)) (A : List UInt8) (bp bv : Value) : Prop where
 box : Bx wr w.heap.size (cellsO t q).toArray
 hd : Hd W0 t q
 prw : PrW wr W0.heap.size g lv cur bp bv A
 spk : SpK (w.heap.size + 1) wr sl xs
 kg : KpG W0.heap.size g w wr
 txt : A ++ restU (nmU l cur) c t = full
 spn : xs.map (·.1) ++ spE (nmU l cur) A.length t = L
 prp : prpU t = pr
 nod : t.nodes ≤ N
 bd : t.bd k
 atm : t.isCons = false → xs ≠ []
theorem bx_noByte {w : World} {b : Nat} {x cur : Array Value} (h : Bx w b x) : w.heap[b]? ≠ some (.cells cur 5 (0, 0)) := fun e => by
 unfold Bx at h
 rw [h] at e
 injection e with e
 injection e with _ e _
 exact absurd e (by decide)
theorem LsW.step {W0 w : World} {g : Nat} {l : List Sy.Pg} {lv : Value} {cur : ByteArray} {full : List UInt8} {L : List Spn} {pr : Bool} {N k : Nat} {wr : World} {sl : Value} {c : UInt8} {a d : Ob} {q : Value} {xs : List (Spn × Value)} {A : List UInt8} {bp bv : Value}
 (h : LsW W0 w g l lv cur full L pr N k wr sl c (.cons a d) q xs A bp bv) (hg : g < w.heap.size) (hB : W0.heap.size ≤ w.heap.size)
 {w2 w3 w4 : World} {v' x : Value} {bp2 bv2 : Value} {S : Nat → Prop}
 (hk : KpG W0.heap.size g wr w2) (hp : PrW w2 W0.heap.size g lv cur bp2 bv2 (A ++ [c] ++ prO (nmU l cur) a))
 (hx : SpL w2 S (spU (nmU l cur) (A ++ [c]).length a).l x) (hS : ∀ b, S b → wr.heap.size ≤ b ∧ b < w2.heap.size) (h3 : Below w2.heap.size w2 w3)
 (h4 : w4.ownsRow (w.heap.size + 1) 107 3 v' (xs.length + 1) (flatS xs ++ [.int .i64 ((spU (nmU l cur) (A ++ [c]).length a).s : Int), .int .i64 ((spU (nmU l cur) (A ++ [c]).length a).e : Int), x])) (hgr : w3.grownBy w4 sl.ownBlock)
 (hat : v'.ownBlock = sl.ownBlock ∨ v'.ownBlock = some w3.heap.size) :
 SpK (w.heap.size + 1) w4 v' (xs ++ [(spU (nmU l cur) (A ++ [c]).length a, x)]) ∧ Bx w4 w.heap.size (cellsO (.cons a d) q).toArray ∧ PrW w4 W0.heap.size g lv cur bp2 bv2 (A ++ [c] ++ prO (nmU l cur) a) ∧ KpG W0.heap.size g w w4 := by
 have hbl := h.box.lt
 have hK2 : SpK (w.heap.size + 1) w2 sl xs := h.spk.kg hk (by omega)
 have hlt := own_lt h.spk.own
 have hs2 := hk.bel.size
 have hs3 := h3.size
 have hgne : w.heap.size ≠ g := by omega
 refine ⟨hK2.step hx (fun b hb => ⟨by have := (hS b hb).1; omega, (hS b hb).2, fun e => by have h1 := (hlt b e).2; have h2 := (hS b hb).1; omega⟩) h3 h4 hgr hat, ?_, hp.grown hK2 (by omega) h3 hgr, (h.kg.trans hk).grown hK2 hB (by omega) h3 hgr⟩
 have b2 := (h.box.kg hk hgne).keep h3
 exact (hgr.block w.heap.size (by omega) (fun e => by have := (own_lt hK2.own w.heap.size e.symm).1; omega)).trans b2
theorem LsW.step2 {W0 w : World} {g : Nat} {l : List Sy.Pg} {lv : Value} {cur : ByteArray} {full : List UInt8} {L : List Spn} {pr : Bool} {N k : Nat} {wr : World} {sl : Value} {c : UInt8} {a d : Ob} {q : Value} {xs : List (Spn × Value)} {A : List UInt8} {bp bv : Value}
 (h : LsW W0 w g l lv cur full L pr N k wr sl c (.cons a d) q xs A bp bv) (hg : g < w.heap.size) (hB : W0.heap.size ≤ w.heap.size)
 {w4 w5 : World} {v' x : Value} {bp2 bv2 pd : Value}
 (hst : SpK (w.heap.size + 1) w4 v' (xs ++ [(spU (nmU l cur) (A ++ [c]).length a, x)]) ∧ Bx w4 w.heap.size (cellsO (.cons a d) q).toArray ∧ PrW w4 W0.heap.size g lv cur bp2 bv2 (A ++ [c] ++ prO (nmU l cur) a) ∧ KpG W0.heap.size g w w4)
 (hd' : Hd W0 d pd) (h5 : Below w.heap.size w4 w5) (h5k : ∀ b, b ≠ w.heap.size → w5.heap[b]? = w4.heap[b]?) (h5b : Bx w5 w.heap.size (cellsO d pd).toArray) :
 LsW W0 w g l lv cur full L pr N k w5 v' 32 d pd (xs ++ [(spU (nmU l cur) (A ++ [c]).length a, x)]) (A ++ [c] ++ prO (nmU l cur) a) bp2 bv2 := by
 obtain ⟨hK, hbx, hP, hKG⟩ := hst
 have e1 : (A ++ [c]).length = A.length + 1 := by simp
 have e2 : (A ++ [c] ++ prO (nmU l cur) a).length = A.length + 1 + (prO (nmU l cur) a).length := by rw [List.length_append, e1]
 refine ⟨h5b, hd', ⟨hP.hB, (h5k g (by omega)).trans hP.blk, hP.ptr, hP.own.rows fun r cur' hr => h5k r (fun e => ?_)⟩, hK.keep h5.size (fun b cur' hb _ => h5k b (by omega)),
  ⟨hKG.bel.trans (h5.mono hB), fun j hj hjg hn => (h5k j (by omega)).trans (hKG.keep j hj hjg hn)⟩, ?_, ?_, h.prp, ?_, h.bd.2, fun _ => by simp⟩
 · subst e; exact bx_noByte hbx hr
 · rw [restU_sp, ← h.txt]
   show A ++ [c] ++ prO (nmU l cur) a ++ prT (nmU l cur) d = A ++ c :: (prO (nmU l cur) a ++ prT (nmU l cur) d)
   simp
 · rw [← h.spn, e1, e2]
   show _ = xs.map (·.1) ++ (spU (nmU l cur) (A.length + 1) a :: spE (nmU l cur) (A.length + 1 + (prO (nmU l cur) a).length) d)
   simp
 · have := h.nod
   have e : (Ob.cons a d).nodes = 1 + a.nodes + d.nodes := rfl
   omega
/-- Seven stores into a box. -/
theorem setB {W : World} {g : Nat} {x : Array Value} (h : Bx W g x) (hx : x.size = 7) (y0 y1 y2 y3 y4 y5 y6 : Value) : Bx (W.setCells g 0 [y0, y1, y2, y3, y4, y5, y6]) g #[y0, y1, y2, y3, y4, y5, y6] := by
 obtain ⟨l⟩ := x
 match l, hx with
 | [x0, x1, x2, x3, x4, x5, x6], _ =>
  unfold Bx at h ⊢
  simp [World.setCells, World.setCell, Array.getElem?_modify, h]
theorem Bx.drewU {W : World} {g : Nat} {x : Array Value} (h : Bx W g x) : Bx W.drew g x := h
theorem drewHeap (W : World) (b : Nat) : W.drew.heap[b]? = W.heap[b]? := rfl
theorem LsW.put {W0 w : World} {g : Nat} {l : List Sy.Pg} {lv : Value} {cur : ByteArray} {full : List UInt8} {L : List Spn} {pr : Bool} {N k : Nat} {wr : World} {sl : Value} {c : UInt8} {a d : Ob} {q : Value} {xs : List (Spn × Value)} {A : List UInt8} {bp bv : Value}
 (h : LsW W0 w g l lv cur full L pr N k wr sl c (.cons a d) q xs A bp bv) (hg : g < w.heap.size) (hB : W0.heap.size ≤ w.heap.size)
 {w4 : World} {v' x : Value} {bp2 bv2 pd : Value}
 (hst : SpK (w.heap.size + 1) w4 v' (xs ++ [(spU (nmU l cur) (A ++ [c]).length a, x)]) ∧ Bx w4 w.heap.size (cellsO (.cons a d) q).toArray ∧ PrW w4 W0.heap.size g lv cur bp2 bv2 (A ++ [c] ++ prO (nmU l cur) a) ∧ KpG W0.heap.size g w w4)
 (hd' : Hd W0 d pd) (y0 y1 y2 y3 y4 y5 : Value) (ed : cellsO d pd = [y0, y1, y2, y3, y4, y5, pd]) :
 LsW W0 w g l lv cur full L pr N k (World.drew (((((((w4.setCell ⟨w.heap.size, 0, none⟩ y0).setCell ⟨w.heap.size, 1, none⟩ y1).setCell ⟨w.heap.size, 2, none⟩ y2).setCell ⟨w.heap.size, 3, none⟩ y3).setCell ⟨w.heap.size, 4, none⟩ y4).setCell ⟨w.heap.size, 5, none⟩ y5).setCell ⟨w.heap.size, 6, none⟩ pd)) v' 32 d pd (xs ++ [(spU (nmU l cur) (A ++ [c]).length a, x)]) (A ++ [c] ++ prO (nmU l cur) a) bp2 bv2 := by
 have e : (((((((w4.setCell ⟨w.heap.size, 0, none⟩ y0).setCell ⟨w.heap.size, 1, none⟩ y1).setCell ⟨w.heap.size, 2, none⟩ y2).setCell ⟨w.heap.size, 3, none⟩ y3).setCell ⟨w.heap.size, 4, none⟩ y4).setCell ⟨w.heap.size, 5, none⟩ y5).setCell ⟨w.heap.size, 6, none⟩ pd) = w4.setCells w.heap.size 0 [y0, y1, y2, y3, y4, y5, pd] := rfl
 rw [e]
 have hx : Bx (w4.setCells w.heap.size 0 [y0, y1, y2, y3, y4, y5, pd]) w.heap.size (cellsO d pd).toArray := by
  rw [ed]
  exact setB hst.2.1 (by simp [cellsO_length]) y0 y1 y2 y3 y4 y5 pd
 exact h.step2 hg hB hst hd' (Below.drew (setCells_below (Nat.le_refl _) _ _ _ (Below.refl _ _))) (fun b hb => (drewHeap _ b).trans (setCells_other w.heap.size b hb _ _ _)) hx.drewU
theorem onesU {w : World} {S : Nat → Prop} {o : Ob} {p x0 x1 x2 x3 x4 x5 : Value} (h : Pair w S o p) (hz : cellsO o p = [x0, x1, x2, x3, x4, x5, p]) : x0.oneCell' = true ∧ x1.oneCell' = true ∧ x2.oneCell' = true ∧ x3.oneCell' = true ∧ x4.oneCell' = true ∧ x5.oneCell' = true ∧ p.oneCell' = true := by
 have h1 := h.one
 rw [hz, Array.all_eq_true_iff_forall_mem] at h1
 exact ⟨h1 _ (by simp), h1 _ (by simp), h1 _ (by simp), h1 _ (by simp), h1 _ (by simp), h1 _ (by simp), h1 _ (by simp)⟩
theorem listG (W0 w : World) (g : Nat) (l : List Sy.Pg) (lv : Value) (cur : ByteArray) (a d : Ob) (p bp bv : Value) (acc : List UInt8) (k : Nat) (hb : (Ob.cons a d).bd k) (hn : (Ob.cons a d).nodes ≤ 3000)
 (hW : Below W0.heap.size W0 w) (hP : PrW w W0.heap.size g lv cur bp bv acc) (hp : Hd W0 (.cons a d) p) (hz : (acc ++ 40 :: (prO (nmU l cur) a ++ prT (nmU l cur) d)).length ≤ 100000000)
 (co : ∀ x, x.nodes < (Ob.cons a d).nodes → x.bd k → PrC W0 g l lv cur x) :
 Calls Tryz.prog 177 #[.pointer (some ⟨g, 0, none⟩), vO (.cons a d) p] w (RetGE W0.heap.size g lv cur (acc ++ 40 :: (prO (nmU l cur) a ++ prT (nmU l cur) d)) (if prpU d = true then spE (nmU l cur) acc.length (.cons a d) else []) w) := by
 have CO := qh9 co
 have HBW := qh9 hW
 have HGL := qh9 hP.lt
 have ea : cellsO (.cons a d) p = [.int .i64 4, .string ⟨#[]⟩, .string ⟨#[]⟩, .string ⟨#[]⟩, .string ⟨#[]⟩, .string ⟨#[]⟩, p] := rfl
 have T := Bx1.new w #[.int .i64 4, .string ⟨#[]⟩, .string ⟨#[]⟩, .string ⟨#[]⟩, .string ⟨#[]⟩, .string ⟨#[]⟩, p]
 have hnod : 1 + a.nodes + d.nodes ≤ 3000 := hn
 obtain ⟨N, hN⟩ : ∃ N, (Ob.cons a d).nodes = N := ⟨_, rfl⟩
 have HNN : Hid (2 ≤ N ∧ N ≤ 3000) := by
  have e : (Ob.cons a d).nodes = 1 + a.nodes + d.nodes := rfl
  have := a.nodes_pos
  exact ⟨by omega, by omega⟩
 obtain ⟨full, hf⟩ : ∃ full, acc ++ 40 :: (prO (nmU l cur) a ++ prT (nmU l cur) d) = full := ⟨_, rfl⟩
 obtain ⟨L, hL⟩ : ∃ L, spE (nmU l cur) acc.length (.cons a d) = L := ⟨_, rfl⟩
 obtain ⟨pr, hpr⟩ : ∃ pr, prpU d = pr := ⟨_, rfl⟩
 have HLL : Hid (L.length ≤ 3000) := by
  show L.length ≤ 3000
  rw [← hL]
  have := spE_len (nmU l cur) acc.length (.cons a d)
  omega
 rw [hf] at hz ⊢
 rw [hL, hpr]
 rw [hN] at CO
 have HZ := qh9 hz
 obtain ⟨R, hR⟩ : ∃ R, (if pr = true then L else []) = R := ⟨_, rfl⟩
 rw [hR]
 have HR := qh9 hR
 have H0 : Hid (∀ W, Below w.heap.size w W → Bx W w.heap.size #[.int .i64 4, .string ⟨#[]⟩, .string ⟨#[]⟩, .string ⟨#[]⟩, .string ⟨#[]⟩, .string ⟨#[]⟩, p] → LsW W0 w g l lv cur full L pr N k W (.slice none 0 0) 40 (.cons a d) p [] acc bp bv) := fun W h hx =>
  ⟨hx, hp, hP.keep h, SpK.start _ _, KpG.of h hW.size, hf, by simpa using hL, hpr, by omega, hb, fun h => absurd h (by simp [Ob.isCons])⟩
 rw [vO_cells ea]
 clear hz hR hf hL hpr co hW hP hnod ea hb hn hp
 obtain ⟨i0, hi0, hz0, hz1, hz2⟩ := infoSp
 have HI0 := qh9 hi0
 have HZ0 := qh9 hz0
 have HZ1 := qh9 hz1
 have HZ2 := qh9 hz2
 clear hi0 hz0 hz1 hz2
 go_enter Tryz.func177, Tryz.ntmps177
 go_upto_region 1 with fail
 generalize w.alloc (.cells #[.int .i64 4, .string ⟨#[]⟩, .string ⟨#[]⟩, .string ⟨#[]⟩, .string ⟨#[]⟩, .string ⟨#[]⟩, p] 27) = W at T ⊢
 have h0 := qh9 (H0.out W T.bel T.b0)
 clear T H0
 go_wp2_with fail
 go_loopg [5, 6] N (fun gh u v wr => ∃ (t : Ob) (q : Value) (c : UInt8) (xs : List (Spn × Value)) (sl : Value) (A : List UInt8) (bp bv : Value), sl = u ∧ v = .string ⟨#[c]⟩ ∧ t.nodes ≤ gh ∧ Hid (LsW W0 w g l lv cur full L pr N k wr sl c t q xs A bp bv))
 case atStart => exact ⟨_, p, 40, [], _, acc, bp, bv, rfl, rfl, h0.out.nod, h0⟩
 case round =>
  clear h0
  obtain ⟨t, q, c, xs, sl, A, bp, bv, rfl, rfl, hgh, hE⟩ := hrel
  obtain ⟨wo, rfl⟩ : ∃ wo : World, wo = wr := ⟨_, rfl⟩
  have HB1 := qh9 (HBW.out.trans hE.out.kg.bel)
  have hgne : w.heap.size ≠ g := by have := HGL.out; omega
  have HGN := qh9 hgne
  clear hgne
  cases ht : t.isCons with
  | true =>
   cases t with
   | num _ => simp [Ob.isCons] at ht
   | str _ => simp [Ob.isCons] at ht
   | sym _ _ => simp [Ob.isCons] at ht
   | cons a' d' =>
    clear ht
    obtain ⟨b, o, cc, pa, pd, rfl, hcc, hA, hD⟩ := hE.out.hd.consU
    have hnn : (Ob.cons a' d').nodes = 1 + a'.nodes + d'.nodes := rfl
    have hna := a'.nodes_pos
    have hnd := d'.nodes_pos
    have hlt : d'.nodes < gk := by omega
    have hNt := hE.out.nod
    have CA := qh9 (CO.out a' (by omega) hE.out.bd.1)
    have B0 : Hid (Bx wo w.heap.size #[.int .i64 4, .string ⟨#[]⟩, .string ⟨#[]⟩, .string ⟨#[]⟩, .string ⟨#[]⟩, .string ⟨#[]⟩, .slice (some ⟨b, o, none⟩) 2 cc]) := hE.out.box
    have HA := qh9 hA
    have HD := qh9 hD
    have hzA : A.length + 1 + (prO (nmU l cur) a').length ≤ 100000000 := by
     have h1 := hE.out.txt
     have h2 := HZ.out
     rw [← h1] at h2
     unfold restU at h2
     simp only [List.length_append, List.length_cons] at h2
     omega
    have HZA := qh9 hzA
    have hbw : b ≠ w.heap.size := by
     have h1 : b < W0.heap.size := hA.1.1
     have h2 := HBW.out.size
     omega
    have HBN := qh9 hbw
    have hxl : xs.length ≤ 3000 := by
     have h1 := HLL.out
     rw [← hE.out.spn] at h1
     simp only [List.length_append, List.length_map] at h1
     omega
    clear hA hD hzA hbw hnn hna hnd hNt hgh
    obtain ⟨m0, m1, m2, m3, m4, m5, m6⟩ := Bx.c B0.out
    go_wp2_with fail
    with_reducible refine (writeG wo _ g lv cur _ _ A ⟨#[c]⟩ hE.out.prw (by have := HZA.out; have e1 : (⟨#[c]⟩ : ByteArray).size = 1 := rfl; omega)).mono ?_
    rintro e w1 ⟨rfl, ⟨bv1, hp1⟩, hk1⟩
    have HP1 : Hid (PrW w1 W0.heap.size g lv cur (.pointer (some ⟨g, 2, none⟩)) bv1 (A ++ [c])) := hp1
    have HK1 := qh9 hk1
    replace B0 := qh9 (B0.out.kg hk1 HGN.out)
    replace HB1 := qh9 (HB1.out.trans hk1.bel)
    clear hp1 hk1 m0 m1 m2 m3 m4 m5 m6
    obtain ⟨m0, m1, m2, m3, m4, m5, m6⟩ := Bx.c B0.out
    have HA1 := qh9 (HA.out.below HB1.out)
    go_wp2_with ((with_reducible refine loadAU ?_ ?_ HA1.out ?_); exact ⟨_, rfl, rfl⟩; rfl)
    with_reducible refine (CA.out.go w1 _ _ pa (A ++ [c]) HB1.out HP1.out HA.out.hd (by have := HZA.out; simp only [List.length_append, List.length_cons, List.length_nil]; omega)).mono ?_
    rintro e w2 ⟨⟨v, rfl, hv⟩, ⟨bp2, bv2, hp2⟩, hk2⟩
    obtain ⟨x, rfl, hx⟩ := hv
    have HX1 : Hid (x.oneCell' = true) := hx.one
    have hs12 := HK1.out.bel.size
    have HSTEP := qh9 (fun (v' : Value) (w4 : World) h4 hgr hat => hE.out.step (v' := v') (w4 := w4) (x := x) (bp2 := bp2) (bv2 := bv2) HGL.out HBW.out.size (HK1.out.trans hk2) hp2 hx (fun b hb => ⟨by have := hb.1; omega, hb.2⟩) (below_al w2 (.cells #[.int .i64 ((spU (nmU l cur) (A ++ [c]).length a').s : Int), .int .i64 ((spU (nmU l cur) (A ++ [c]).length a').e : Int), x] 107)) h4 hgr hat)
    have own3 := qh9 ((hE.out.spk.kg (HK1.out.trans hk2) (by have := HGL.out; omega)).below (below_al w2 (.cells #[.int .i64 ((spU (nmU l cur) (A ++ [c]).length a').s : Int), .int .i64 ((spU (nmU l cur) (A ++ [c]).length a').e : Int), x] 107))).own
    have hs3 : w.heap.size + 1 ≤ (w2.alloc (.cells #[.int .i64 ((spU (nmU l cur) (A ++ [c]).length a').s : Int), .int .i64 ((spU (nmU l cur) (A ++ [c]).length a').e : Int), x] 107)).heap.size := by
     have h1 := hE.out.kg.bel.size
     have h2 := hk2.bel.size
     simp only [World.size_alloc]
     have h3 := hE.out.box.lt
     omega
    have HST2 := qh9 (fun (v' : Value) (w4 : World) h y0 y1 y2 y3 y4 y5 ed => hE.out.put (v' := v') (w4 := w4) (x := x) (bp2 := bp2) (bv2 := bv2) HGL.out HBW.out.size h HD.out.hd y0 y1 y2 y3 y4 y5 ed)
    generalize ((spU (nmU l cur) (A ++ [c]).length a').s : Int) = zs at HSTEP own3 hs3 ⊢
    generalize ((spU (nmU l cur) (A ++ [c]).length a').e : Int) = ze at HSTEP own3 hs3 ⊢
    have HONE : Hid (∀ u ∈ [Value.int .i64 zs, .int .i64 ze, x], u.oneCell' = true) := fun u hu => by
     simp only [List.mem_cons, List.not_mem_nil, or_false] at hu
     rcases hu with rfl | rfl | rfl
     · rfl
     · rfl
     · exact HX1.out
    have HNEWS : Hid (∀ j u, [Value.int .i64 zs, .int .i64 ze, x][j]? = some u → (w2.alloc (.cells #[.int .i64 zs, .int .i64 ze, x] 107)).cell? ((⟨w2.heap.size, 0, none⟩ : Addr).add j) = some u) := newsO (cs := #[.int .i64 zs, .int .i64 ze, x]) rfl
    obtain ⟨n, hxn⟩ : ∃ n, xs.length = n := ⟨_, rfl⟩
    rw [hxn] at hxl own3
    have HSTEP' : Hid (∀ (v' : Value) (w4 : World), w4.ownsRow (w.heap.size + 1) 107 3 v' (n + 1) (flatS xs ++ [.int .i64 zs, .int .i64 ze, x]) → _ → _ → _) := fun v' w4 h4 hgr hat => HSTEP.out v' w4 (by rw [hxn]; exact h4) hgr hat
    have HB2 := qh9 (HB1.out.trans hk2.bel)
    clear HSTEP hk2 hp2 hx m0 m1 m2 m3 m4 m5 m6 HA HA1 B0 hs12 hxn HK1 HP1 HX1
    go_upto_region 6 with (at_builtin; refine wpList_append_own_at _ rfl (.tmp 15) (.tmp 22) _ rfl (w.heap.size + 1) 107 i0 _ 3 40 Tryz.underlying105 HI0.out HZ0.out HZ1.out HZ2.out rfl (by omega) sl n (flatS xs) rfl own3.out ⟨w2.heap.size, 0, none⟩ 1 1 [.int .i64 zs, .int .i64 ze, x] rfl rfl HNEWS.out HONE.out (by simp only [maxLen]; omega) (by omega) hs3 ?_; intro v4 w4 hown4 hg4 hnil4 hat4; have hst := qh9 (HSTEP'.out v4 w4 hown4 hg4 hat4); clear hown4 hg4 hnil4 hat4)
    have HB4 := qh9 (HBW.out.trans hst.out.2.2.2.bel)
    have HD4 := HD.out.below HB4.out
    have HD5 := HD.out.below (Below.drew HB4.out)
    have B4 : Hid (Bx w4 w.heap.size #[.int .i64 4, .string ⟨#[]⟩, .string ⟨#[]⟩, .string ⟨#[]⟩, .string ⟨#[]⟩, .string ⟨#[]⟩, .slice (some ⟨b, o, none⟩) 2 cc]) := hst.out.2.1
    have B5 : Hid (Bx w4.drew w.heap.size #[.int .i64 4, .string ⟨#[]⟩, .string ⟨#[]⟩, .string ⟨#[]⟩, .string ⟨#[]⟩, .string ⟨#[]⟩, .slice (some ⟨b, o, none⟩) 2 cc]) := hst.out.2.1
    obtain ⟨m0, m1, m2, m3, m4, m5, m6⟩ := Bx.c B4.out
    obtain ⟨n0, n1, n2, n3, n4, n5, n6⟩ := Bx.c B5.out
    have f0 := Bx.frU B4.out 0
    have ff0 := Bx.frU B5.out 0
    have f1 := Bx.frU B4.out 1
    have ff1 := Bx.frU B5.out 1
    have f2 := Bx.frU B4.out 2
    have ff2 := Bx.frU B5.out 2
    have f3 := Bx.frU B4.out 3
    have ff3 := Bx.frU B5.out 3
    have f4 := Bx.frU B4.out 4
    have ff4 := Bx.frU B5.out 4
    have f5 := Bx.frU B4.out 5
    have ff5 := Bx.frU B5.out 5
    have f6 := Bx.frU B4.out 6
    have ff6 := Bx.frU B5.out 6
    obtain ⟨y0, y1, y2, y3, y4, y5, ed, l0, l1, l2, l3, l4, l5, l6⟩ := HD4.cells
    obtain ⟨_, _, _, _, _, _, ed', k0, k1, k2, k3, k4, k5, k6⟩ := HD5.cells
    rw [ed] at ed'
    simp only [List.cons.injEq, and_true] at ed'
    obtain ⟨rfl, rfl, rfl, rfl, rfl, rfl⟩ := ed'
    obtain ⟨on0, on1, on2, on3, on4, on5, on6⟩ := onesU HD.out.hd ed
    have st0 : ∀ (a : Addr) (w : World), (store a y0).run Tryz.prog w = stored Tryz.prog w a y0 .plain := fun a w => run_store Tryz.prog w a _ _ on0
    have st1 : ∀ (a : Addr) (w : World), (store a y1).run Tryz.prog w = stored Tryz.prog w a y1 .plain := fun a w => run_store Tryz.prog w a _ _ on1
    have st2 : ∀ (a : Addr) (w : World), (store a y2).run Tryz.prog w = stored Tryz.prog w a y2 .plain := fun a w => run_store Tryz.prog w a _ _ on2
    have st3 : ∀ (a : Addr) (w : World), (store a y3).run Tryz.prog w = stored Tryz.prog w a y3 .plain := fun a w => run_store Tryz.prog w a _ _ on3
    have st4 : ∀ (a : Addr) (w : World), (store a y4).run Tryz.prog w = stored Tryz.prog w a y4 .plain := fun a w => run_store Tryz.prog w a _ _ on4
    have st5 : ∀ (a : Addr) (w : World), (store a y5).run Tryz.prog w = stored Tryz.prog w a y5 .plain := fun a w => run_store Tryz.prog w a _ _ on5
    have st6 : ∀ (a : Addr) (w : World), (store a pd).run Tryz.prog w = stored Tryz.prog w a pd .plain := fun a w => run_store Tryz.prog w a _ _ on6
    have HL5 := qh9 (HST2.out v4 w4 hst.out y0 y1 y2 y3 y4 y5 ed)
    have hbw := HBN.out
    have hwb : ¬ w.heap.size = b := fun e => hbw e.symm
    clear hst HB4 HD4 HD5 B4 B5 ed on0 on1 on2 on3 on4 on5 on6 HST2 HSTEP' own3 HNEWS HONE
    apply mergeU
    case h =>
     intro hG
     go_region_with (fail)
     all_goals exact hG
    clear m0 m1 m2 m3 m4 m5 m6 n0 n1 n2 n3 n4 n5 n6 f0 f1 f2 f3 f4 f5 f6 ff0 ff1 ff2 ff3 ff4 ff5 ff6 l0 l1 l2 l3 l4 l5 l6 k0 k1 k2 k3 k4 k5 k6 st0 st1 st2 st3 st4 st5 st6
    go_wp2_with fail
    go_roundg d'.nodes
    all_goals first | exact hlt | exact ⟨d', pd, 32, _, v4, _, _, _, rfl, rfl, Nat.le_refl _, HL5⟩
  | false =>
   obtain ⟨kk, x1, x2, x3, x4, x5, ek, hk4⟩ := kind_flat ht q
   have BB : Hid (Bx wo w.heap.size (cellsO t q).toArray) := hE.out.box
   have B0 : Hid (Bx wo w.heap.size #[.int .i64 kk, x1, x2, x3, x4, x5, q]) := by
    have := hE.out.box
    rwa [ek] at this
   have CN : Hid (∀ X, Calls Tryz.prog 228 #[vO t q] X (RetB X (decide (t = .nil)))) := fun X => isNilP t q X
   have htx := hE.out.txt
   have hre : restU (nmU l cur) c t = prT (nmU l cur) t := by
    cases t with
    | cons _ _ => simp [Ob.isCons] at ht
    | _ => rfl
   rw [hre, prT_atom _ ht] at htx
   have hsp := hE.out.spn
   rw [spE_flat _ _ ht, List.append_nil] at hsp
   have hpp := hE.out.prp
   have hpt : prpU t = decide (t = .nil) := by
    cases t with
    | cons _ _ => simp [Ob.isCons] at ht
    | _ => rfl
   rw [hpt] at hpp
   have hne := hE.out.atm ht
   have hnt : t.nodes < N := by
    have h1 := HNN.out.1
    have h2 : t.nodes = 1 := by
     cases t with
     | cons _ _ => simp [Ob.isCons] at ht
     | _ => rfl
    omega
   have CT := qh9 (CO.out t hnt hE.out.bd)
   have HSK := qh9 hE.out.spk
   have HPW := qh9 hE.out.prw
   have HKG := qh9 hE.out.kg
   have HHD := qh9 hE.out.hd
   clear hgh hre hpt ek ht hnt
   obtain ⟨m0, m1, m2, m3, m4, m5, m6⟩ := Bx.c B0.out
   by_cases hnil : t = .nil
   · rw [decide_eq_true hnil] at CN hpp
     rw [if_pos hnil] at htx
     rw [← hpp, if_pos rfl, ← hsp] at HR
     have HT := qh9 htx
     have HNE := qh9 hne
     clear hE htx hsp hpp hne hnil
     go_wp2_with (first | ((with_reducible refine loadB (.tmp 3) ?_ ?_ ?_ BB.out ?_); rfl; rfl; rfl))
     with_reducible refine (CN.out _).mono ?_
     rintro e w1 ⟨rfl, hb⟩
     replace HPW := qh9 (HPW.out.keep hb)
     replace HKG := qh9 (HKG.out.trans (KpG.of hb (HB1.out.size)))
     replace HSK := qh9 (HSK.out.below hb)
     have HSP := qh9 (HSK.out.fin HNE.out)
     clear hb m0 m1 m2 m3 m4 m5 m6
     go_wp2_with fail
     with_reducible refine (writeG w1 _ g lv cur _ _ A ⟨#[41]⟩ HPW.out (by have h1 := HZ.out; have h2 := HT.out; rw [← h2] at h1; simp only [List.length_append, List.length_cons, List.length_nil] at h1; have e1 : (⟨#[41]⟩ : ByteArray).size = 1 := rfl; omega)).mono ?_
     rintro e w2 ⟨rfl, ⟨bv2, hp2⟩, hk2⟩
     have HP2 : Hid (PrW w2 W0.heap.size g lv cur (.pointer (some ⟨g, 2, none⟩)) bv2 full) := by
      have e : A ++ [41] = full := HT.out
      rw [← e]
      exact hp2
     have hgg := HGL.out
     have HSP2 : Hid (SpL w2 (fun b => w.heap.size ≤ b ∧ b < w2.heap.size) R sl) := by
      rw [← HR.out]
      exact HSP.out.kg (fun b hb => ⟨by have := hb.1; omega, by have := hb.2; have := hk2.bel.size; omega⟩) (fun b hb => by have := hb.1; omega) hk2
     have KF := qh9 (HKG.out.trans hk2)
     clear hp2 hk2 hgg
     go_wp2
     go_ret
     exact ⟨⟨sl, rfl, HSP2.out⟩, ⟨_, _, HP2.out⟩, KF.out⟩
   · rw [decide_eq_false hnil] at CN hpp
     rw [if_neg hnil] at htx
     rw [← hpp, if_neg (by simp)] at HR
     have HT := qh9 htx
     have hzl : A.length + 3 + (prO (nmU l cur) t).length + 1 ≤ 100000000 := by
      have h1 := HZ.out
      rw [← htx] at h1
      simp only [List.length_append, List.length_cons, List.length_nil] at h1
      omega
     have HZL := qh9 hzl
     clear hE htx hsp hpp hne hnil hzl
     go_wp2_with (first | ((with_reducible refine loadB (.tmp 3) ?_ ?_ ?_ BB.out ?_); rfl; rfl; rfl))
     with_reducible refine (CN.out _).mono ?_
     rintro e w1 ⟨rfl, hb⟩
     replace HPW := qh9 (HPW.out.keep hb)
     replace HKG := qh9 (HKG.out.trans (KpG.of hb (HB1.out.size)))
     replace BB := qh9 (BB.out.keep hb)
     clear hb m0 m1 m2 m3 m4 m5 m6 B0
     go_wp2_with fail
     with_reducible refine (writeG w1 _ g lv cur _ _ A ⟨#[32, 46, 32]⟩ HPW.out (by have := HZL.out; have e1 : (⟨#[32, 46, 32]⟩ : ByteArray).size = 3 := rfl; omega)).mono ?_
     rintro e w2 ⟨rfl, ⟨bv2, hp2⟩, hk2⟩
     have HP2 : Hid (PrW w2 W0.heap.size g lv cur (.pointer (some ⟨g, 2, none⟩)) bv2 (A ++ [32, 46, 32])) := hp2
     replace BB := qh9 (BB.out.kg hk2 HGN.out)
     replace HKG := qh9 (HKG.out.trans hk2)
     have HB2 := qh9 (HBW.out.trans HKG.out.bel)
     clear hp2 hk2
     go_wp2_with (first | ((with_reducible refine loadB (.tmp 3) ?_ ?_ ?_ BB.out ?_); rfl; rfl; rfl))
     with_reducible refine (CT.out.go w2 _ _ q (A ++ [32, 46, 32]) HB2.out HP2.out HHD.out (by have := HZL.out; simp only [List.length_append, List.length_cons, List.length_nil]; omega)).mono ?_
     rintro e w3 ⟨⟨v, rfl, _⟩, ⟨bp3, bv3, hp3⟩, hk3⟩
     have HP3 := qh9 hp3
     replace HKG := qh9 (HKG.out.trans hk3)
     clear hp3 hk3
     go_wp2_with fail
     with_reducible refine (writeG w3 _ g lv cur _ _ (A ++ [32, 46, 32] ++ prO (nmU l cur) t) ⟨#[41]⟩ HP3.out (by have := HZL.out; simp only [List.length_append, List.length_cons, List.length_nil]; have e1 : (⟨#[41]⟩ : ByteArray).size = 1 := rfl; omega)).mono ?_
     rintro e w4 ⟨rfl, ⟨bv4, hp4⟩, hk4⟩
     have HP4 : Hid (PrW w4 W0.heap.size g lv cur (.pointer (some ⟨g, 2, none⟩)) bv4 full) := by
      have e : A ++ [32, 46, 32] ++ prO (nmU l cur) t ++ [41] = full := by
       rw [← HT.out]
       simp
      rw [← e]
      exact hp4
     have KF := qh9 (HKG.out.trans hk4)
     clear hp4 hk4
     go_wp2
     go_ret
     rw [← HR.out]
     exact ⟨⟨_, rfl, .nil⟩, ⟨_, _, HP4.out⟩, KF.out⟩
theorem belDN (w : World) (n : Nat) : Below w.heap.size w (w.drewN n) := ⟨rfl, rfl, rfl, Nat.le_refl _, fun _ _ => rfl⟩
/-- One box that has been made and filled. -/
structure Pt1U (w X : World) (o : Ob) (p : Value) : Prop where
 bel : Below w.heap.size w X
 b0 : Bx X w.heap.size (cellsO o p).toArray
theorem Pt1U.new {w : World} {o : Ob} {p : Value} {z : Array Value} : Pt1U w (World.setRow (w.alloc (.cells z 27)) w.heap.size (cellsO o p).toArray) o p := by
 have T := Bx1.new w z
 exact ⟨below_setRowO T.bel (Nat.le_refl _) _, T.b0.set⟩
/-- The call returned an object and true, or the zero object and false. -/
def RetQU (W0 w : World) (m : Option Ob) (e : Ending) (w' : World) : Prop := match m with
 | some o => ∃ q, e = .returned (.tuple #[vO o q, .bool true]) ∧ Hd W0 o q ∧ Below w.heap.size w w'
 | none => e = .returned (.tuple #[.agg zeroC, .bool false]) ∧ Below w.heap.size w w'
/-- A store of the zero object into a box. -/
theorem storeZU {ops : Array Oper} {rest : List Oper} {o : Oper} {a : Act} {w : World} {Q : Exit → Act → World → Prop} {g : Nat} {x0 x1 x2 x3 x4 x5 x6 : Value} (x y : Operand) (ho : o.op = .store 27 x y) (hgd : o.guard = none)
 (hx : a.eval x = .pointer (some ⟨g, 0, none⟩)) (hy : a.eval y = .agg zeroC) (hg : Bx w g #[x0, x1, x2, x3, x4, x5, x6])
 (h : wpList Tryz.prog ops Q rest (a.put o.dst undef) (w.setRow g zeroC)) : wpList Tryz.prog ops Q (o :: rest) a w :=
 storeO hgd x y ho g _ hx hy _ _ hg rfl rfl (by simp [zeroC, Value.oneCell']) h
theorem load_row7U (w : World) (g : Nat) (cs : Array Value) (hg : Bx w g cs) (hs : cs.size = 7) : (loadVar 27 ⟨g, 0, none⟩).run Tryz.prog w = .ok (.agg cs) w :=
 run_loadVar_row w g 27 27 cs (0, 0) _ hg Tryz.underlying27 rfl (by rw [hs]; kernel_rfl)
theorem results_csU {fn : Func} {r0 r1 : Tmp} (h : fn.results = #[.cell r0 27, .tmp r1]) (tmps : Array Value) (w : World) (g0 : Nat) (c0 : Array Value)
 (h0 : tmps.getD r0 undef = .pointer (some ⟨g0, 0, none⟩)) (b0 : Bx w g0 c0) (s0 : c0.size = 7) :
 (results fn tmps).run Tryz.prog w = .ok (.tuple #[.agg c0, tmps.getD r1 undef]) w := by
 have h0' : tmps[r0]?.getD undef = .pointer (some ⟨g0, 0, none⟩) := by simpa using h0
 simp [results, h, h0', asAddr, load_row7U w g0 c0 b0 s0]

theorem retQNs {fn : Func} {q r : Tmp} {W0 w0 w : World} {tmps : Array Value} {g : Nat} {x : Array Value} (h : fn.results = #[.cell q 27, .tmp r]) (hq : tmps.getD q undef = .pointer (some ⟨g, 0, none⟩)) (hr : tmps.getD r undef = .bool false)
 (hg : Bx w g x) (hlt : w0.heap.size ≤ g) (hb : Below w0.heap.size w0 w) : bodyPost Tryz.prog fn (RetQU W0 w0 none) Exit.ret ⟨tmps, []⟩ (w.setRow g zeroC) :=
 bodyPost_ret (results_csU h tmps _ g _ hq hg.set rfl) rfl ⟨by rw [hr], below_setRowO hb hlt _⟩
theorem retQSs {fn : Func} {q r : Tmp} {W0 w0 w : World} {tmps : Array Value} {g : Nat} {o : Ob} {p : Value} {x : Array Value} (h : fn.results = #[.cell q 27, .tmp r]) (hq : tmps.getD q undef = .pointer (some ⟨g, 0, none⟩)) (hr : tmps.getD r undef = .bool true)
 (hg : Bx w g x) (hx : x.size = 7) (hp : Hd W0 o p) (hlt : w0.heap.size ≤ g) (hb : Below w0.heap.size w0 w) : bodyPost Tryz.prog fn (RetQU W0 w0 (some o)) Exit.ret ⟨tmps, []⟩ (w.setRow g (cellsO o p).toArray) :=
 bodyPost_ret (results_csU h tmps _ g _ hq hg.set (by rw [List.size_toArray, cellsO_length])) rfl ⟨p, by rw [hr]; rfl, hp, below_setRowO hb hlt _⟩
theorem quoteH (w : World) : Calls Tryz.prog 141 #[.agg #[.string ⟨#[108, 105, 115, 112]⟩, .string ⟨#[113, 117, 111, 116, 101]⟩]] w (RetH w quoteO) :=
 (symP _ _ w (Has w)).mono fun _ _ h => h.h (In.has w)
/-- What quoted answers. -/
def qO (o : Ob) : Option Ob := match o.items with
 | some [i, x] => if i = quoteO then some x else none
 | _ => none
theorem qO_cons (a d : Ob) : qO (.cons a d) = if isQU a d = true then (match d with | .cons x _ => some x | _ => none) else none := by
 unfold qO
 cases d with
 | num q => simp [Ob.items, isQU, Ob.nil]
 | str s => simp [Ob.items, isQU, Ob.nil]
 | sym x y =>
  simp only [Ob.items, isQU]
  split <;> simp_all
 | cons x e =>
  cases e with
  | num q => simp [Ob.items, isQU, Ob.nil]
  | str s => simp [Ob.items, isQU, Ob.nil]
  | cons y z => cases hz : z.items <;> simp [Ob.items, isQU, hz, Ob.nil]
  | sym y z =>
   by_cases hn : Ob.sym y z = .nil
   · by_cases ha : a = quoteO
     · simp [Ob.items, isQU, hn, ha]
     · simp [Ob.items, isQU, hn, ha]
   · simp [Ob.items, isQU, hn]
theorem quotedN (o : Ob) (p : Value) (W0 w : World) (hz : Below W0.heap.size W0 w) (hp : Hd w o p) (ci : ∀ X, Below W0.heap.size W0 X → Hd X o p → Calls Tryz.prog 146 #[vO o p] X (RetIt X (Has W0) none)) :
 Calls Tryz.prog 176 #[vO o p] w (RetQU W0 w none) := by
 have CI := qh9 ci
 have HZ := qh9 hz
 clear ci hz
 obtain ⟨a0, a1, a2, a3, a4, a5, ea⟩ := cells7 (o) p
 have T := Bx2.new w #[a0, a1, a2, a3, a4, a5, p] #[.int .i64 0, .string ⟨#[]⟩, .string ⟨#[]⟩, .string ⟨#[]⟩, .string ⟨#[]⟩, .string ⟨#[]⟩, .slice none 0 0]
 rw [vO_cells ea]
 go_enter Tryz.func176, Tryz.ntmps176
 go_wp2_with fail
 generalize (w.alloc (.cells #[a0, a1, a2, a3, a4, a5, p] 27)).alloc (.cells #[.int .i64 0, .string ⟨#[]⟩, .string ⟨#[]⟩, .string ⟨#[]⟩, .string ⟨#[]⟩, .string ⟨#[]⟩, .slice none 0 0] 27) = W at T ⊢
 have B0 : Hid (Bx W (w.heap.size) (cellsO (o) p).toArray) := by rw [ea]; exact T.b0
 have K0 := qh9 (hp.below T.bel)
 have R0 := qh9 T.b1
 have HW := qh9 T.bel
 try rw [← vO_cells ea]
 clear T ea hp
 with_reducible refine (quoteH _).mono ?_
 rintro e w1 ⟨q0, rfl, k0, hb⟩
 replace B0 := qh9 (B0.out.keep hb)
 replace K0 := qh9 (K0.out.below hb)
 replace R0 := qh9 (R0.out.keep hb)
 replace HW := qc9 HW hb
 clear hb
 replace k0 := qh9 k0
 have T := qh9 (Bx1.new w1 #[.int .i64 0, .string ⟨#[]⟩, .string ⟨#[]⟩, .string ⟨#[]⟩, .string ⟨#[]⟩, .string ⟨#[]⟩, .slice none 0 0])
 go_wp2_with (first | ((with_reducible refine storeB (w1 := w1) (g := w1.heap.size) (b := quoteO) (p := q0) (.tmp 4) (.tmp 8) ?_ ?_ ?_ ?_ k0.out T.out.b0 ?_); rfl; rfl; rfl; rfl; have P := Pt1U.new (w := w1) (o := quoteO) (p := q0) (z := #[.int .i64 0, .string ⟨#[]⟩, .string ⟨#[]⟩, .string ⟨#[]⟩, .string ⟨#[]⟩, .string ⟨#[]⟩, .slice none 0 0]); generalize World.setRow (w1.alloc (.cells #[.int .i64 0, .string ⟨#[]⟩, .string ⟨#[]⟩, .string ⟨#[]⟩, .string ⟨#[]⟩, .string ⟨#[]⟩, .slice none 0 0] 27)) w1.heap.size (cellsO (quoteO) q0).toArray = X1 at P ⊢; have hb := P.bel; replace B0 := qh9 (B0.out.keep hb); replace K0 := qh9 (K0.out.below hb); replace R0 := qh9 (R0.out.keep hb); replace HW := qc9 HW hb; replace k0 := qh9 (k0.out.below hb); have D0 := qh9 P.b0; clear P hb T) | ((with_reducible refine loadB (.tmp 1) ?_ ?_ ?_ B0.out ?_); rfl; rfl; rfl) | ((with_reducible refine loadB (.tmp 4) ?_ ?_ ?_ D0.out ?_); rfl; rfl; rfl) | ((with_reducible refine loadG (.tmp 1) ?_ ?_ ?_ B0.out ?_); rfl; rfl; rfl) | ((with_reducible refine loadG (.tmp 4) ?_ ?_ ?_ D0.out ?_); rfl; rfl; rfl))
 with_reducible refine (CI.out _ (HZ.out.trans (HW.out.mono HZ.out.size)) K0.out).mono ?_
 rintro e w2 ⟨hb, rfl⟩
 replace B0 := qh9 (B0.out.keep hb)
 replace K0 := qh9 (K0.out.below hb)
 replace R0 := qh9 (R0.out.keep hb)
 replace HW := qc9 HW hb
 replace k0 := qh9 (k0.out.below hb)
 replace D0 := qh9 (D0.out.keep hb)
 clear hb CI
 go_upto_region 3 with fail
 first | (go_region_with (fail)) | fail
 all_goals
  have RD := qh9 (R0.out.keep (Below.drew (Below.refl _ _)))
  have HWD := qh9 (Below.drew HW.out)
  go_wp2_with ((with_reducible refine storeZU (g := w.heap.size + 1) (.tmp 2) (.tmp 29) ?_ ?_ ?_ ?_ RD.out ?_); rfl; rfl; rfl; rfl)
  exact retQNs rfl rfl rfl RD.out (by omega) HWD.out
theorem quotedL (o : Ob) (p : Value) (W0 w : World) (hz : Below W0.heap.size W0 w) (hp : Hd w o p) (l : List Ob) (hl : l.length ≠ 2) (ci : ∀ X, Below W0.heap.size W0 X → Hd X o p → Calls Tryz.prog 146 #[vO o p] X (RetIt X (Has W0) (some l))) :
 Calls Tryz.prog 176 #[vO o p] w (RetQU W0 w none) := by
 have CI := qh9 ci
 have HZ := qh9 hz
 clear ci hz
 obtain ⟨a0, a1, a2, a3, a4, a5, ea⟩ := cells7 (o) p
 have T := Bx2.new w #[a0, a1, a2, a3, a4, a5, p] #[.int .i64 0, .string ⟨#[]⟩, .string ⟨#[]⟩, .string ⟨#[]⟩, .string ⟨#[]⟩, .string ⟨#[]⟩, .slice none 0 0]
 rw [vO_cells ea]
 go_enter Tryz.func176, Tryz.ntmps176
 go_wp2_with fail
 generalize (w.alloc (.cells #[a0, a1, a2, a3, a4, a5, p] 27)).alloc (.cells #[.int .i64 0, .string ⟨#[]⟩, .string ⟨#[]⟩, .string ⟨#[]⟩, .string ⟨#[]⟩, .string ⟨#[]⟩, .slice none 0 0] 27) = W at T ⊢
 have B0 : Hid (Bx W (w.heap.size) (cellsO (o) p).toArray) := by rw [ea]; exact T.b0
 have K0 := qh9 (hp.below T.bel)
 have R0 := qh9 T.b1
 have HW := qh9 T.bel
 try rw [← vO_cells ea]
 clear T ea hp
 with_reducible refine (quoteH _).mono ?_
 rintro e w1 ⟨q0, rfl, k0, hb⟩
 replace B0 := qh9 (B0.out.keep hb)
 replace K0 := qh9 (K0.out.below hb)
 replace R0 := qh9 (R0.out.keep hb)
 replace HW := qc9 HW hb
 clear hb
 replace k0 := qh9 k0
 have T := qh9 (Bx1.new w1 #[.int .i64 0, .string ⟨#[]⟩, .string ⟨#[]⟩, .string ⟨#[]⟩, .string ⟨#[]⟩, .string ⟨#[]⟩, .slice none 0 0])
 go_wp2_with (first | ((with_reducible refine storeB (w1 := w1) (g := w1.heap.size) (b := quoteO) (p := q0) (.tmp 4) (.tmp 8) ?_ ?_ ?_ ?_ k0.out T.out.b0 ?_); rfl; rfl; rfl; rfl; have P := Pt1U.new (w := w1) (o := quoteO) (p := q0) (z := #[.int .i64 0, .string ⟨#[]⟩, .string ⟨#[]⟩, .string ⟨#[]⟩, .string ⟨#[]⟩, .string ⟨#[]⟩, .slice none 0 0]); generalize World.setRow (w1.alloc (.cells #[.int .i64 0, .string ⟨#[]⟩, .string ⟨#[]⟩, .string ⟨#[]⟩, .string ⟨#[]⟩, .string ⟨#[]⟩, .slice none 0 0] 27)) w1.heap.size (cellsO (quoteO) q0).toArray = X1 at P ⊢; have hb := P.bel; replace B0 := qh9 (B0.out.keep hb); replace K0 := qh9 (K0.out.below hb); replace R0 := qh9 (R0.out.keep hb); replace HW := qc9 HW hb; replace k0 := qh9 (k0.out.below hb); have D0 := qh9 P.b0; clear P hb T) | ((with_reducible refine loadB (.tmp 1) ?_ ?_ ?_ B0.out ?_); rfl; rfl; rfl) | ((with_reducible refine loadB (.tmp 4) ?_ ?_ ?_ D0.out ?_); rfl; rfl; rfl) | ((with_reducible refine loadG (.tmp 1) ?_ ?_ ?_ B0.out ?_); rfl; rfl; rfl) | ((with_reducible refine loadG (.tmp 4) ?_ ?_ ?_ D0.out ?_); rfl; rfl; rfl))
 with_reducible refine (CI.out _ (HZ.out.trans (HW.out.mono HZ.out.size)) K0.out).mono ?_
 rintro e w2 ⟨hb, g, rfl, _, hg1, hg2⟩
 replace B0 := qh9 (B0.out.keep hb)
 replace K0 := qh9 (K0.out.below hb)
 replace R0 := qh9 (R0.out.keep hb)
 replace HW := qc9 HW hb
 replace k0 := qh9 (k0.out.below hb)
 replace D0 := qh9 (D0.out.keep hb)
 clear hb CI hg1 hg2
 obtain ⟨n, hn⟩ : ∃ n, l.length = n := ⟨_, rfl⟩
 rw [hn] at hl ⊢
 clear hn
 have hl2 : ¬ (n : Int) = 2 := by omega
 have hl3 : ((n : Int) != 2) = true := by simp; omega
 have hl5 : decide ((n : Int) = 2) = false := by simp; omega
 clear hl
 go_upto_region 3 with fail
 go_quiet (fail)
 all_goals
  have RD := qh9 (R0.out.keep (belDN _ nq))
  have HWD := qh9 (chain2 HW.out (belDN _ nq) (Nat.le_refl _))
  go_wp2_with ((with_reducible refine storeZU (g := w.heap.size + 1) (.tmp 2) (.tmp 29) ?_ ?_ ?_ ?_ RD.out ?_); rfl; rfl; rfl; rfl)
  exact retQNs rfl rfl rfl RD.out (by omega) HWD.out
section
variable {Q : Exit → Act → World → Prop}
end
section
variable {Q : Exit → Act → World → Prop}
end
section
variable {P : Program} {Q : Exit → Act → World → Prop} {ops : Array Oper} {K : Act → World → Prop} {a : Act} {w : World} {i : Nat} {o : Oper}
theorem wanted_g {og : Oper} {g : Nat} {b v : Bool} {s : Tmp} (hg : o.guard = some (g, b)) (ho : ops[g]? = some og) (hd : og.dst = some s) (hs : a.tmps[s]? = some (.bool v)) : Region.wanted o (yielded ops a.tmps) = (v == b) := by
 simp [Region.wanted, hg, yielded, ho, hd, hs]
theorem wanted_on {og : Oper} {g : Nat} {b v : Bool} {s : Tmp} (hg : o.guard = some (g, b)) (ho : ops[g]? = some og) (hd : og.dst = some s) (hs : a.tmps[s]? = some (.bool v)) (e : (v == b) = true) : Region.wanted o (yielded ops a.tmps) = true := (wanted_g hg ho hd hs).trans e
theorem gw_tt (ho : ops[i]? = some o) (hw : Region.wanted o (yielded ops a.tmps) = true) (f : FuncId) (s0 : Tmp) (s1 : Tmp) (v0 v1 : Value) (ts : Array TypeId) (hop : o.op = Op.call { callee := Callee.value (Operand.func f), args := #[.tmp s0, .tmp s1], argTypes := ts }) (hf : ∀ (v0 v1 : Value) (w : World), (callFunc f #[v0, v1]).run P w = .ok (.enter f #[v0, v1]) w)
 (h0 : a.tmps[s0]? = some v0) (h1 : a.tmps[s1]? = some v1)
 (hc : Calls P f #[v0, v1] w fun e w' => ∃ r, e = .returned r ∧ K (a.put o.dst r) w') : wpOp P ops Q i K a w :=
 wpOp_step ho fun K' hK' => by
  rw [if_pos hw]
  unfold Oper.wp
  simp only [execOp, hop]
  go_simp
  refine hc.mono ?_
  rintro e w' ⟨r, rfl, h⟩
  exact hK' _ _ h
theorem gw_move (ho : ops[i]? = some o) (hw : Region.wanted o (yielded ops a.tmps) = true) (s : Tmp) (v : Value) (hop : o.op = Op.move (.tmp s)) (hx : a.tmps[s]? = some v) (hK : K (a.put o.dst v) w) : wpOp P ops Q i K a w :=
 wpOp_step ho fun K' hK' => by
  rw [if_pos hw]
  unfold Oper.wp
  simp only [execOp, hop]
  go_simp
  exact hK' _ _ hK
theorem gw_not (ho : ops[i]? = some o) (hw : Region.wanted o (yielded ops a.tmps) = true) (s : Tmp) (b : Bool) (t : TypeId) (hop : o.op = Op.unOp UnOp.not t (.tmp s)) (hx : a.tmps[s]? = some (.bool b)) (hK : K (a.put o.dst (.bool !b)) w) : wpOp P ops Q i K a w :=
 wpOp_step ho fun K' hK' => by
  rw [if_pos hw]
  unfold Oper.wp
  simp only [execOp, hop]
  go_simp
  exact hK' _ _ hK
theorem gw_load (ho : ops[i]? = some o) (hw : Region.wanted o (yielded ops a.tmps) = true) (ty : TypeId) (x : Operand) (hop : o.op = .load ty x) (g : Nat) (hx : a.eval x = .pointer (some ⟨g, 0, none⟩)) (cs : Array Value) (t : TypeId) (fr : Nat × Nat) (d : TypeDesc) (hc : w.heap[g]? = some (.cells cs t fr))
 (hu : P.underlying ty = some d) (hd : (match d with | .struct _ | .array _ _ => true | _ => false) = true) (hi : (P.info? ty).map (·.size) = some cs.size) (hK : K (a.put o.dst (.agg cs)) w) : wpOp P ops Q i K a w :=
 wpOp_step ho fun K' hK' => by
  rw [if_pos hw]
  exact wp_load_row ty x hop g hx t cs fr d hc hu hd hi (hK' _ _ hK)
end
theorem gw_box {Q : Exit → Act → World → Prop} {ops : Array Oper} {K : Act → World → Prop} {a : Act} {w : World} {i : Nat} {o : Oper} (ho : ops[i]? = some o) (hw : Region.wanted o (yielded ops a.tmps) = true) (x : Operand) (hop : o.op = .load 27 x) {g : Nat} {b : Ob} {p : Value} (hx : a.eval x = .pointer (some ⟨g, 0, none⟩)) (hb : Bx w g (cellsO b p).toArray)
 (hK : K (a.put o.dst (vO b p)) w) : wpOp Tryz.prog ops Q i K a w :=
 gw_load ho hw 27 x hop g hx _ _ _ _ hb Tryz.underlying27 rfl (by rw [List.size_toArray, cellsO_length]; kernel_rfl) hK
/-- The object o lies at ⟨g, k⟩, cell by cell. -/
structure CAt (w : World) (o : Ob) (g k : Nat) (p : Value) : Prop where
 lt : g < w.heap.size
 cell : ∀ j u, (cellsO o p)[j]? = some u → w.cell? ⟨g, k + j, none⟩ = some u
theorem CAt.below {w w' : World} {o : Ob} {g k : Nat} {p : Value} (h : CAt w o g k p) (hb : Below w.heap.size w w') : CAt w' o g k p :=
 ⟨Nat.lt_of_lt_of_le h.lt hb.size, fun j u hj => (hb.cell (p := ⟨g, k + j, none⟩) h.lt).trans (h.cell j u hj)⟩
theorem loadCU {ops : Array Oper} {rest : List Oper} {o : Oper} {a : Act} {w : World} {Q : Exit → Act → World → Prop} {g k : Nat} {b : Ob} {p : Value} (ho : ∃ x, o.op = .load 27 x ∧ a.eval x = .pointer (some ⟨g, k, none⟩)) (hgd : o.guard = none)
 (hb : CAt w b g k p)
 (h : wpList Tryz.prog ops Q rest (a.put o.dst (vO b p)) w) : wpList Tryz.prog ops Q (o :: rest) a w := by
 obtain ⟨x, ho, hx⟩ := ho
 exact wpList_load_mid hgd 27 x ho g k hx (cellsO b p) _ hb.cell Tryz.underlying27 rfl (by rw [cellsO_length]; kernel_rfl) h
section
variable {Q : Exit → Act → World → Prop} {ops : Array Oper} {K : Act → World → Prop} {a : Act} {w : World} {i : Nat} {o : Oper}
theorem gw_idxU (ho : ops[i]? = some o) (hw : Region.wanted o (yielded ops a.tmps) = true) (s : Tmp) (b off c : Nat) (hop : o.op = Op.indexAddr 25 (.tmp s) (.const (.int .i64 0))) (hx : a.tmps[s]? = some (.slice (some ⟨b, off, none⟩) 2 c)) (hK : K (a.put o.dst (.pointer (some ⟨b, off, none⟩))) w) : wpOp Tryz.prog ops Q i K a w :=
 wpOp_step ho fun K' hK' => by
  rw [if_pos hw]
  unfold Oper.wp
  simp only [execOp, hop]
  go_simp
  exact hK' _ _ hK
theorem gw_neqU (ho : ops[i]? = some o) (hw : Region.wanted o (yielded ops a.tmps) = true) (s : Tmp) (n : Int) (hop : o.op = Op.binOp BinOp.neq 3 (.tmp s) (.const (.int .i64 2)) 3) (hx : a.tmps[s]? = some (.int .i64 n)) (hK : K (a.put o.dst (.bool (n != 2))) w) : wpOp Tryz.prog ops Q i K a w :=
 wpOp_step ho fun K' hK' => by
  rw [if_pos hw]
  unfold Oper.wp
  simp only [execOp, hop]
  go_simp
  exact hK' _ _ hK
theorem gw_ldU (ho : ops[i]? = some o) (hw : Region.wanted o (yielded ops a.tmps) = true) (s : Tmp) {g k : Nat} {b : Ob} {p : Value} (hop : o.op = .load 27 (.tmp s)) (hx : a.tmps[s]? = some (.pointer (some ⟨g, k, none⟩))) (hb : CAt w b g k p)
 (hK : K (a.put o.dst (vO b p)) w) : wpOp Tryz.prog ops Q i K a w :=
 wpOp_step ho fun K' hK' => by
  rw [if_pos hw]
  exact wp_load_mid 27 (.tmp s) hop g k (eval_of hx) (cellsO b p) _ hb.cell Tryz.underlying27 rfl (by rw [cellsO_length]; kernel_rfl) (hK' _ _ hK)
theorem gw_lenU (ho : ops[i]? = some o) (hw : Region.wanted o (yielded ops a.tmps) = true) (s : Tmp) (A : Option Addr) (n c : Nat) (hop : o.op = Op.call { callee := .builtin .len, args := #[.tmp s], argTypes := #[25] }) (hx : a.tmps[s]? = some (.slice A n c)) (hK : K (a.put o.dst (.int .i64 (n : Int))) w) : wpOp Tryz.prog ops Q i K a w :=
 wpOp_step ho fun K' hK' => by
  rw [if_pos hw]
  unfold Oper.wp
  simp only [execOp, hop]
  go_simp
  exact hK' _ _ hK
theorem gw_pickU (ho : ops[i]? = some o) (hw : Region.wanted o (yielded ops a.tmps) = true) (s t : Tmp) (x : Operand) (v : Value) (hop : o.op = Op.pick (.tmp s) x (.tmp t)) (hx : a.tmps[s]? = some (.bool false)) (hy : a.tmps[t]? = some v) (hK : K (a.put o.dst v) w) : wpOp Tryz.prog ops Q i K a w :=
 wpOp_step ho fun K' hK' => by
  rw [if_pos hw]
  unfold Oper.wp
  simp only [execOp, hop]
  go_simp
  exact hK' _ _ hK
end
end Go.Proofs.YtlocnkobancjmaaGreatDoor
