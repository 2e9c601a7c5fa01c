import Derived.Test.YtbffnoodpoagcaaGreatDoorAl
import Derived.Test.YtbffnoodpoagcaaGreatDoorH22
import Derived.Lib.AtoiAllCases
import Derived.Shelf.Strconv.AtoiAll
import Derived.Lib.AtoiErrMem
import Derived.BigQuiet
import Derived.StillTailTactics
import Derived.Test.YtbffnoodpoagcaaGreatDoorH20
namespace Go.Proofs.YtbffnoodpoagcaaGreatDoor
open Go Go.RowKit
set_option linter.unusedVariables false
theorem parse_digs : ∀ (l : List UInt8) (acc : Nat), l.all isDig = true → acc * 10 ^ l.length + ofD (toDigs l) < 18446744073709551616 → Lib.parseUint10 acc l = .ok (acc * 10 ^ l.length + ofD (toDigs l))
 | [], acc, _, _ => by
  show Lib.NumEnd.ok acc = _
  simp [toDigs, ofD]
 | c :: r, acc, h, hlt => by
  rw [List.all_cons, Bool.and_eq_true] at h
  have hc : 48 ≤ c.toNat ∧ c.toNat ≤ 57 := by
   have := h.1
   unfold isDig at this
   rw [Bool.and_eq_true, decide_eq_true_eq, decide_eq_true_eq] at this
   exact this
  rw [ofD_toDigs_cons, List.length_cons, Nat.pow_succ] at hlt ⊢
  have hp : 1 ≤ 10 ^ r.length := Nat.one_le_pow _ _ (by decide)
  have e : acc * (10 ^ r.length * 10) + (ofD (toDigs r) + 10 ^ r.length * (c.toNat - 48)) = (acc * 10 + (c.toNat - 48)) * 10 ^ r.length + ofD (toDigs r) := by
   rw [Nat.add_mul, Nat.mul_comm (10 ^ r.length) (c.toNat - 48), Nat.mul_comm (10 ^ r.length) 10, ← Nat.mul_assoc]
   omega
  rw [e] at hlt ⊢
  have h2 : (acc * 10 + (c.toNat - 48)) * 1 ≤ (acc * 10 + (c.toNat - 48)) * 10 ^ r.length := Nat.mul_le_mul_left _ hp
  rw [Lib.parseUint10, if_pos hc, if_neg (by omega), if_neg (by omega)]
  exact parse_digs r _ h.2 hlt
theorem parseMag_magText {n : Nat} (h : n < 18446744073709551616) : Lib.parseMag (magText n) = .ok n := by
 by_cases h0 : n = 0
 · subst h0; rfl
 · have hg := goodDigits_magText h0
   have hne : magText n ≠ [] := by intro e; rw [e] at hg; cases hg
   have hv := ofD_toDigs_magText n
   unfold Lib.parseMag
   rw [if_neg hne, parse_digs _ 0 (good_all hg) (by rw [hv]; omega), hv]
   simp
theorem magText_plain (n : Nat) : ∃ c r, magText n = c :: r ∧ c.toNat ≠ 43 ∧ c.toNat ≠ 45 := by
 by_cases h0 : n = 0
 · subst h0; exact ⟨48, [], rfl, by decide, by decide⟩
 · have hg := goodDigits_magText h0
   have ha := good_all hg
   cases hm : magText n with
   | nil => rw [hm] at hg; cases hg
   | cons c r =>
    rw [hm, List.all_cons, Bool.and_eq_true] at ha
    have := ha.1
    unfold isDig at this
    rw [Bool.and_eq_true, decide_eq_true_eq, decide_eq_true_eq] at this
    exact ⟨c, r, rfl, by omega, by omega⟩
theorem atoi_text {n : Int} (h : I64 n) : Lib.atoiAll (text n) = .ok n := by
 have h1 := h.1
 have h2 := h.2
 unfold text signText
 by_cases hn : n < 0
 · have hz : n.natAbs ≠ 0 := by omega
   have e1 : (decide (n < 0) && n.natAbs != 0) = true := by rw [decide_eq_true hn]; simpa using hz
   rw [e1, if_pos rfl, Lib.atoiAll_minus, parseMag_magText (by omega)]
   show (if 9223372036854775808 < n.natAbs then _ else _) = _
   rw [if_neg (by omega)]
   congr 1
   omega
 · have e1 : (decide (n < 0) && n.natAbs != 0) = false := by rw [decide_eq_false hn]; rfl
   rw [e1, if_neg (by decide)]
   obtain ⟨c, r, hm, a1, a2⟩ := magText_plain n.natAbs
   have hp := parseMag_magText (n := n.natAbs) (by omega)
   rw [hm] at hp ⊢
   rw [Lib.atoiAll_plain c r a1 a2, hp]
   show (if 9223372036854775808 ≤ n.natAbs then _ else _) = _
   rw [if_neg (by omega)]
   congr 1
   omega
theorem atoiV (n : Int) (w : World) (h : I64 n) : Calls Tryz.prog 176 #[.string (BA (text n))] w fun e w' => e = .returned (.tuple #[.int .i64 n, .nilIface]) ∧ Below w.heap.size w w' := by
 have hl := text_length (x := n) (k := 20) (by have h1 := h.1; have h2 := h.2; omega)
 refine (Tryz.strconv_Atoi_ok (BA (text n)) (by rw [BA_size]; omega) n (by rw [show (BA (text n)).data.toList = text n from LA_BA _]; exact atoi_text h) w).mono fun e w' ⟨h1, h2⟩ => ⟨h1, ?_⟩
 rcases h2 with rfl | ⟨t, rfl⟩
 · exact Below.refl _ _
 · exact Lib.bytesWorld_below _ _ _
theorem pv1 : ∀ {l : List Ob}, l.length = 1 → ∃ x, l = [x]
 | [x], _ => ⟨x, rfl⟩
theorem pv2 : ∀ {l : List Ob}, l.length = 2 → ∃ x y, l = [x, y]
 | [x, y], _ => ⟨x, y, rfl⟩
theorem pv3 : ∀ {l : List Ob}, l.length = 3 → ∃ x y z, l = [x, y, z]
 | [x, y, z], _ => ⟨x, y, z, rfl⟩
def Good (o : Ob) : Prop := (o.bd 90 ∧ o.nodes ≤ 3000) ∨ ∃ p n, o = .sym p n ∧ Sy.symOk (BA p) (BA n) = true
theorem good_nil : Good .nil := .inl ⟨nil_ok, by decide⟩
theorem good_num {q : Rat} (h : Bd 90 q) : Good (.num q) := .inl ⟨h, by show 1 ≤ 3000; decide⟩
theorem good_in {n : Int} {k : Nat} (h : n.natAbs < 10 ^ k) (hk : 0 < k ∧ k ≤ 90) : Good (inO n) := good_num ((bd_int h hk.1).more hk.2)
theorem good_str {s : List UInt8} (h : s.length ≤ 200) : Good (.str s) := .inl ⟨h, by show 1 ≤ 3000; decide⟩
theorem bd00 : Bd 10 0 := ⟨by decide, by decide⟩
theorem good_intern : ∀ (x y : Ob), Good (internV x y)
 | .str n, .str p => by
  show Good (if _ then _ else _)
  split
  · rename_i h; exact .inr ⟨p, n, rfl, h⟩
  · exact good_nil
 | .str _, .num _ => good_nil
 | .str _, .sym _ _ => good_nil
 | .str _, .cons _ _ => good_nil
 | .num _, _ => good_nil
 | .sym _ _, _ => good_nil
 | .cons _ _, _ => good_nil
theorem good_byte (x y : Ob) : Good (match idxV x.strV.length y with
 | some k => inO ((x.strV.getD k 0).toNat : Int)
 | none => .nil) := by
 cases idxV x.strV.length y with
 | none => exact good_nil
 | some k => exact good_in (k := 10) (by have := (x.strV.getD k 0).toNat_lt; omega) (by decide)
theorem good_bytes (x : Ob) : Good (.str (match idxV 256 x with
 | some k => [UInt8.ofNat k]
 | none => [])) := by
 cases idxV 256 x with
 | none => exact good_str (by decide)
 | some k => exact good_str (by show 1 ≤ 200; decide)
def RetY (w : World) (v : Value) (e : Ending) (w' : World) : Prop := e = .returned v ∧ Below w.heap.size w w'
def RetY2 (w : World) (s t : ByteArray) (e : Ending) (w' : World) : Prop := e = .returned (.tuple #[.string s, .string t]) ∧ Below w.heap.size w w'
theorem belowN (w : World) (n : Nat) : Below w.heap.size w (w.drewN n) := ⟨rfl, rfl, rfl, Nat.le_refl _, fun _ _ => rfl⟩
def Ob.kd : Ob → Int
 | .num _ => 1
 | .sym _ _ => 2
 | .str _ => 3
 | .cons _ _ => 4
def Ob.f1 : Ob → ByteArray
 | .num q => nt q
 | _ => ⟨#[]⟩
def Ob.f2 : Ob → ByteArray
 | .num q => dt q
 | _ => ⟨#[]⟩
def Ob.f3 : Ob → ByteArray
 | .sym p _ => BA p
 | _ => ⟨#[]⟩
def Ob.f4 : Ob → ByteArray
 | .sym _ n => BA n
 | _ => ⟨#[]⟩
def Ob.f5 : Ob → ByteArray
 | .str s => BA s
 | _ => ⟨#[]⟩
theorem cellsK (o : Ob) (p : Value) : cellsO o p = [.int .i64 o.kd, .string o.f1, .string o.f2, .string o.f3, .string o.f4, .string o.f5, p] := by cases o <;> rfl
theorem vOK (o : Ob) (p : Value) : vO o p = .agg #[.int .i64 o.kd, .string o.f1, .string o.f2, .string o.f3, .string o.f4, .string o.f5, p] := by unfold vO; rw [cellsK]
theorem Ad.k {w : World} {o : Ob} {b k : Nat} {p : Value} (h : Ad w o b k p) : w.cell? ⟨b, k, none⟩ = some (.int .i64 o.kd) ∧ w.cell? ⟨b, k + 1, none⟩ = some (.string o.f1) ∧ w.cell? ⟨b, k + 2, none⟩ = some (.string o.f2) ∧ w.cell? ⟨b, k + 3, none⟩ = some (.string o.f3) ∧ w.cell? ⟨b, k + 4, none⟩ = some (.string o.f4) ∧ w.cell? ⟨b, k + 5, none⟩ = some (.string o.f5) ∧ w.cell? ⟨b, k + 6, none⟩ = some p := by
 have hc := h.2.1
 rw [cellsK] at hc
 exact ⟨hc 0 _ rfl, hc 1 _ rfl, hc 2 _ rfl, hc 3 _ rfl, hc 4 _ rfl, hc 5 _ rfl, hc 6 _ rfl⟩
theorem kd_cons (x : Ob) : (x.kd == 4) = x.isCons := by cases x <;> rfl
theorem kd_sym (x : Ob) : (x.kd == 2) = x.isSymB := by cases x <;> rfl
theorem kd_str (x : Ob) : (x.kd == 3) = x.isStrB := by cases x <;> rfl
theorem kd_num (x : Ob) : (x.kd == 1) = x.isNumB := by cases x <;> rfl
theorem BxK {W : World} {g : Nat} {o : Ob} {p : Value} (h : Bx W g (cellsO o p).toArray) : Bx W g #[.int .i64 o.kd, .string o.f1, .string o.f2, .string o.f3, .string o.f4, .string o.f5, p] := by rw [cellsK] at h; exact h
theorem fix_f1 (x : Ob) : nt x.fix = if x.isNumB then x.f1 else ⟨#[48]⟩ := by
 cases x <;> first | rfl | (show nt 0 = _; decide)
theorem fix_f2 (x : Ob) : dt x.fix = if x.isNumB then x.f2 else ⟨#[49]⟩ := by
 cases x <;> first | rfl | (show dt 0 = _; decide)

theorem tH (w : World) : Calls Tryz.prog 162 #[] w (RetH w .t) := (tP w NoB).mono fun _ _ h => h.h (NoB.in w)
theorem nilH (w : World) : Calls Tryz.prog 129 #[] w (RetH w .nil) := (nilP w NoB).mono fun _ _ h => h.h (NoB.in w)
theorem textH (s : ByteArray) (w : World) : Calls Tryz.prog 142 #[.string s] w (RetH w (.str (LA s))) := (textP s w NoB).mono fun _ _ h => h.h (NoB.in w)
theorem symbolH (p n : ByteArray) (w : World) : Calls Tryz.prog 144 #[.agg #[.string p, .string n]] w (RetH w (.sym (LA p) (LA n))) := (symP p n w NoB).mono fun _ _ h => h.h (NoB.in w)
theorem intH (n : Int) (w : World) (h : I64 n) (ht : Tab w) : Calls Tryz.prog 137 #[.int .i64 n] w (RetH w (inO n)) := (intP n w NoB h ht).mono fun _ _ h => h.h (NoB.in w)
theorem ratH (s t : ByteArray) (w : World) (hs : s.size ≤ 400000000) (ht : t.size ≤ 400000000) : Calls Tryz.prog 165 #[.string s, .string t] w (RetH w (.num (quo (LA s) (LA t)))) := (ratP s t w NoB (NoB.in w) hs ht).mono fun _ _ h => h.h (NoB.in w)
set_option maxHeartbeats 4000000 in
set_option maxRecDepth 100000 in
theorem answerP (yes : Bool) (w : World) : Calls Tryz.prog 125 #[.bool yes] w (RetH w (trO yes)) := by
 cases yes with
 | true =>
  have T := Bx1.new w #[.int .i64 0, .string ⟨#[]⟩, .string ⟨#[]⟩, .string ⟨#[]⟩, .string ⟨#[]⟩, .string ⟨#[]⟩, .slice none 0 0]
  go_enter Tryz.func125, Tryz.ntmps125
  go_upto_region 1 with fail
  generalize w.alloc (.cells #[.int .i64 0, .string ⟨#[]⟩, .string ⟨#[]⟩, .string ⟨#[]⟩, .string ⟨#[]⟩, .string ⟨#[]⟩, .slice none 0 0] 27) = W at T ⊢
  have R0 := qh9 T.b0
  have HW := qh9 T.bel
  clear T  
  go_wp2_with fail
  with_reducible refine (tH _).mono ?_
  rintro e w1 ⟨p, rfl, kp, hb⟩
  replace R0 := qh9 (R0.out.keep hb)
  replace HW := qc9 HW hb
  clear hb
  replace kp := qh9 kp
  go_wp2_with ((with_reducible refine storeB (w1 := w1) (g := w.heap.size) (b := .t) (p := p) (.tmp 2) (.tmp 4) ?_ ?_ ?_ ?_ kp.out R0.out ?_); rfl; rfl; rfl; rfl)
  exact retHs rfl rfl R0.out rfl kp.out (by omega) HW.out
 | false =>
  have T := Bx1.new w #[.int .i64 0, .string ⟨#[]⟩, .string ⟨#[]⟩, .string ⟨#[]⟩, .string ⟨#[]⟩, .string ⟨#[]⟩, .slice none 0 0]
  go_enter Tryz.func125, Tryz.ntmps125
  go_upto_region 1 with fail
  generalize w.alloc (.cells #[.int .i64 0, .string ⟨#[]⟩, .string ⟨#[]⟩, .string ⟨#[]⟩, .string ⟨#[]⟩, .string ⟨#[]⟩, .slice none 0 0] 27) = W at T ⊢
  have R0 := qh9 T.b0
  have HW := qh9 T.bel
  clear T  
  go_wp2_with fail
  with_reducible refine (nilH _).mono ?_
  rintro e w1 ⟨p, rfl, kp, hb⟩
  replace R0 := qh9 (R0.out.keep hb)
  replace HW := qc9 HW hb
  clear hb
  replace kp := qh9 kp
  go_wp2_with ((with_reducible refine storeB (w1 := w1) (g := w.heap.size) (b := .nil) (p := p) (.tmp 2) (.tmp 5) ?_ ?_ ?_ ?_ kp.out R0.out ?_); rfl; rfl; rfl; rfl)
  exact retHs rfl rfl R0.out rfl kp.out (by omega) HW.out
set_option maxHeartbeats 4000000 in
set_option maxRecDepth 100000 in
theorem hasPartsP (x : Ob) (p : Value) (w : World) (hp : Hd w x p) : Calls Tryz.prog 128 #[vO x p] w (RetB w x.isCons) := by
 rw [← kd_cons]
 have hl : x.kd = 4 → ∃ A c, p = .slice A 2 c := by
  intro h
  cases x with
  | cons a d => obtain ⟨b, o, c, pa, pd, rfl, _⟩ := hp.cons; exact ⟨_, _, rfl⟩
  | _ => cases h
 have hs : ∃ A n c, p = .slice A n c := by
  obtain ⟨k, s1, s2, s3, s4, s5, A, n, c, _, h⟩ := cells_open hp
  exact ⟨A, n, c, h⟩
 obtain ⟨A, n, c, rfl⟩ := hs
 have T := Bx1.new w #[.int .i64 x.kd, .string x.f1, .string x.f2, .string x.f3, .string x.f4, .string x.f5, .slice A n c]
 rw [vOK]
 clear hp
 generalize x.kd = k at *
 by_cases h4 : k = 4
 · obtain ⟨A', c', e⟩ := hl h4
   injection e with e1 e2 e3
   subst h4 e1 e2 e3
   clear hl
   go_enter Tryz.func128, Tryz.ntmps128
   go_wp2_with fail
   go_ret
   exact ⟨rfl, T.bel⟩
 · have hk : (k == 4) = false := by rw [beq_eq_false_iff_ne]; exact h4
   rw [hk]
   clear hl
   go_enter Tryz.func128, Tryz.ntmps128
   go_wp2_with fail
   go_ret
   exact ⟨rfl, T.bel⟩
set_option maxHeartbeats 4000000 in
set_option maxRecDepth 100000 in
theorem fractionP (x : Ob) (p : Value) (w : World) : Calls Tryz.prog 139 #[vO x p] w (RetY2 w (nt x.fix) (dt x.fix)) := by
 rw [fix_f1, fix_f2, ← kd_num]
 have T := Bx1.new w #[.int .i64 x.kd, .string x.f1, .string x.f2, .string x.f3, .string x.f4, .string x.f5, p]
 rw [vOK]
 generalize x.kd = k at *
 generalize x.f1 = s1 at *
 generalize x.f2 = s2 at *
 generalize x.f3 = s3 at *
 generalize x.f4 = s4 at *
 generalize x.f5 = s5 at *
 by_cases h1 : k = 1
 · subst h1
   go_enter Tryz.func139, Tryz.ntmps139
   go_upto_region 1 with fail
   generalize w.alloc _ = W at T ⊢
   obtain ⟨c0, c1, c2, c3, c4, c5, c6⟩ := Bx.c T.b0
   have HW := qh9 T.bel
   clear T
   go_wp2_with fail
   go_quiet (fail)
   go_wp2_with fail
   go_ret2
   exact ⟨rfl, HW.out.trans ((belowN _ _).mono HW.out.size)⟩
 · have hk : (k == 1) = false := by rw [beq_eq_false_iff_ne]; exact h1
   rw [hk]
   go_enter Tryz.func139, Tryz.ntmps139
   go_wp2_with fail
   go_ret2
   exact ⟨rfl, T.bel⟩
set_option maxHeartbeats 4000000 in
set_option maxRecDepth 100000 in
theorem integerP (n : Int) (w : World) (hn : (BA (text n)).size ≤ 400000000) : Calls Tryz.prog 140 #[.string (BA (text n))] w (RetH w (inO n)) := by
 have hq : quo (LA (BA (text n))) (LA ⟨#[49]⟩) = (n : Rat) := by
  rw [show (⟨#[49]⟩ : ByteArray) = BA (text 1) from by decide, quo_text, q_int]
 have RC : Hid (∀ W, Calls Tryz.prog 165 #[.string (BA (text n)), .string ⟨#[49]⟩] W (RetH W (inO n))) := fun W => by
  have h := ratH (BA (text n)) ⟨#[49]⟩ W hn (by decide)
  rw [hq] at h
  exact h
 clear hq hn
 generalize inO n = o at RC ⊢
 generalize BA (text n) = s at RC ⊢
 have T := Bx1.new w #[.int .i64 0, .string ⟨#[]⟩, .string ⟨#[]⟩, .string ⟨#[]⟩, .string ⟨#[]⟩, .string ⟨#[]⟩, .slice none 0 0]
 go_enter Tryz.func140, Tryz.ntmps140
 go_upto_region 1 with fail
 generalize w.alloc (.cells #[.int .i64 0, .string ⟨#[]⟩, .string ⟨#[]⟩, .string ⟨#[]⟩, .string ⟨#[]⟩, .string ⟨#[]⟩, .slice none 0 0] 27) = W at T ⊢
 have R0 := qh9 T.b0
 have HW := qh9 T.bel
 clear T  
 go_wp2_with fail
 with_reducible refine (RC.out _).mono ?_
 rintro e w1 ⟨p, rfl, kp, hb⟩
 replace R0 := qh9 (R0.out.keep hb)
 replace HW := qc9 HW hb
 clear hb
 replace kp := qh9 kp
 go_wp2_with ((with_reducible refine storeB (w1 := w1) (g := w.heap.size) (b := o) (p := p) (.tmp 2) (.tmp 4) ?_ ?_ ?_ ?_ kp.out R0.out ?_); rfl; rfl; rfl; rfl)
 exact retHs rfl rfl R0.out rfl kp.out (by omega) HW.out
set_option maxHeartbeats 4000000 in
set_option maxRecDepth 100000 in
theorem textV (x : Ob) (p : Value) (w : World) : Calls Tryz.prog 145 #[vO x p] w (RetY w (.string (BA x.strV))) := by
 have hs : BA x.strV = if x.kd == 3 then x.f5 else ⟨#[]⟩ := by cases x <;> rfl
 rw [hs]
 clear hs
 have T := Bx1.new w #[.int .i64 x.kd, .string x.f1, .string x.f2, .string x.f3, .string x.f4, .string x.f5, p]
 rw [vOK]
 generalize x.kd = k at *
 generalize x.f1 = s1 at *
 generalize x.f2 = s2 at *
 generalize x.f3 = s3 at *
 generalize x.f4 = s4 at *
 generalize x.f5 = s5 at *
 by_cases h1 : k = 3
 · subst h1
   go_enter Tryz.func145, Tryz.ntmps145
   go_wp2_with fail
   go_ret
   exact ⟨rfl, T.bel⟩
 · have hk : (k == 3) = false := by rw [beq_eq_false_iff_ne]; exact h1
   rw [hk]
   go_enter Tryz.func145, Tryz.ntmps145
   go_wp2_with fail
   go_ret
   exact ⟨rfl, T.bel⟩
set_option maxHeartbeats 4000000 in
set_option maxRecDepth 100000 in
theorem val0 (x y z : Ob) (b o c : Nat) (p q r : Value) (w : World) (hx : Ad w x b o p) (hy : Ad w y b (o + 7) q) (hz : Ad w z b (o + 14) r) (hc : 3 ≤ c) : Calls Tryz.prog 75 #[.slice (some ⟨b, o, none⟩) 3 c] w (RetH w (if x = .nil then z else y)) := by
 have CN : Hid (∀ W q, Calls Tryz.prog 124 #[vO x q] W (RetB W (decide (x = .nil)))) := fun W q => isNilP x q W
 have e : (if x = .nil then z else y) = (if decide (x = .nil) = true then z else y) := by simp
 rw [e]
 clear e
 generalize decide (x = .nil) = v at CN ⊢
 cases v with
 | true =>
  show Calls _ _ _ _ (RetH w z)
  have HX := qh9 hx
  have HY := qh9 hy
  have HZ := qh9 hz
  clear hx hy hz
  have T := Bx1.new w #[.int .i64 0, .string ⟨#[]⟩, .string ⟨#[]⟩, .string ⟨#[]⟩, .string ⟨#[]⟩, .string ⟨#[]⟩, .slice none 0 0]
  go_enter Tryz.func75, Tryz.ntmps75
  go_upto_region 1 with fail
  generalize w.alloc (.cells #[.int .i64 0, .string ⟨#[]⟩, .string ⟨#[]⟩, .string ⟨#[]⟩, .string ⟨#[]⟩, .string ⟨#[]⟩, .slice none 0 0] 27) = W at T ⊢
  have R0 := qh9 T.b0
  have HW := qh9 T.bel
  clear T  
  replace HX := qh9 (HX.out.below HW.out)
  replace HY := qh9 (HY.out.below HW.out)
  replace HZ := qh9 (HZ.out.below HW.out)
  go_wp2_with (first | ((with_reducible refine loadA ?_ ?_ HX.out ?_); exact ⟨_, rfl, rfl⟩; rfl) | ((with_reducible refine loadAG ?_ ?_ HX.out ?_); exact ⟨_, rfl, rfl⟩; rfl) | ((with_reducible refine loadA ?_ ?_ HY.out ?_); exact ⟨_, rfl, rfl⟩; rfl) | ((with_reducible refine loadAG ?_ ?_ HY.out ?_); exact ⟨_, rfl, rfl⟩; rfl) | ((with_reducible refine loadA ?_ ?_ HZ.out ?_); exact ⟨_, rfl, rfl⟩; rfl) | ((with_reducible refine loadAG ?_ ?_ HZ.out ?_); exact ⟨_, rfl, rfl⟩; rfl))
  with_reducible refine (CN.out _ _).mono ?_
  rintro e w1 ⟨rfl, hb⟩
  replace R0 := qh9 (R0.out.keep hb)
  replace HW := qc9 HW hb
  replace HX := qh9 (HX.out.below hb)
  replace HY := qh9 (HY.out.below hb)
  replace HZ := qh9 (HZ.out.below hb)
  clear hb
  have KY := qh9 HY.out.hd
  have KZ := qh9 HZ.out.hd
  go_wp2_with (first | ((with_reducible refine storeB (w1 := w1) (g := w.heap.size) (b := z) (p := r) (.tmp 2) (.tmp 9) ?_ ?_ ?_ ?_ KZ.out R0.out ?_); rfl; rfl; rfl; rfl) | ((with_reducible refine loadA ?_ ?_ HX.out ?_); exact ⟨_, rfl, rfl⟩; rfl) | ((with_reducible refine loadAG ?_ ?_ HX.out ?_); exact ⟨_, rfl, rfl⟩; rfl) | ((with_reducible refine loadA ?_ ?_ HY.out ?_); exact ⟨_, rfl, rfl⟩; rfl) | ((with_reducible refine loadAG ?_ ?_ HY.out ?_); exact ⟨_, rfl, rfl⟩; rfl) | ((with_reducible refine loadA ?_ ?_ HZ.out ?_); exact ⟨_, rfl, rfl⟩; rfl) | ((with_reducible refine loadAG ?_ ?_ HZ.out ?_); exact ⟨_, rfl, rfl⟩; rfl))
  exact retHs rfl rfl R0.out rfl KZ.out (by omega) HW.out
 | false =>
  show Calls _ _ _ _ (RetH w y)
  have HX := qh9 hx
  have HY := qh9 hy
  have HZ := qh9 hz
  clear hx hy hz
  have T := Bx1.new w #[.int .i64 0, .string ⟨#[]⟩, .string ⟨#[]⟩, .string ⟨#[]⟩, .string ⟨#[]⟩, .string ⟨#[]⟩, .slice none 0 0]
  go_enter Tryz.func75, Tryz.ntmps75
  go_upto_region 1 with fail
  generalize w.alloc (.cells #[.int .i64 0, .string ⟨#[]⟩, .string ⟨#[]⟩, .string ⟨#[]⟩, .string ⟨#[]⟩, .string ⟨#[]⟩, .slice none 0 0] 27) = W at T ⊢
  have R0 := qh9 T.b0
  have HW := qh9 T.bel
  clear T  
  replace HX := qh9 (HX.out.below HW.out)
  replace HY := qh9 (HY.out.below HW.out)
  replace HZ := qh9 (HZ.out.below HW.out)
  go_wp2_with (first | ((with_reducible refine loadA ?_ ?_ HX.out ?_); exact ⟨_, rfl, rfl⟩; rfl) | ((with_reducible refine loadAG ?_ ?_ HX.out ?_); exact ⟨_, rfl, rfl⟩; rfl) | ((with_reducible refine loadA ?_ ?_ HY.out ?_); exact ⟨_, rfl, rfl⟩; rfl) | ((with_reducible refine loadAG ?_ ?_ HY.out ?_); exact ⟨_, rfl, rfl⟩; rfl) | ((with_reducible refine loadA ?_ ?_ HZ.out ?_); exact ⟨_, rfl, rfl⟩; rfl) | ((with_reducible refine loadAG ?_ ?_ HZ.out ?_); exact ⟨_, rfl, rfl⟩; rfl))
  with_reducible refine (CN.out _ _).mono ?_
  rintro e w1 ⟨rfl, hb⟩
  replace R0 := qh9 (R0.out.keep hb)
  replace HW := qc9 HW hb
  replace HX := qh9 (HX.out.below hb)
  replace HY := qh9 (HY.out.below hb)
  replace HZ := qh9 (HZ.out.below hb)
  clear hb
  have KY := qh9 HY.out.hd
  have KZ := qh9 HZ.out.hd
  go_wp2_with (first | ((with_reducible refine storeB (w1 := w1) (g := w.heap.size) (b := y) (p := q) (.tmp 2) (.tmp 12) ?_ ?_ ?_ ?_ KY.out R0.out ?_); rfl; rfl; rfl; rfl) | ((with_reducible refine loadA ?_ ?_ HX.out ?_); exact ⟨_, rfl, rfl⟩; rfl) | ((with_reducible refine loadAG ?_ ?_ HX.out ?_); exact ⟨_, rfl, rfl⟩; rfl) | ((with_reducible refine loadA ?_ ?_ HY.out ?_); exact ⟨_, rfl, rfl⟩; rfl) | ((with_reducible refine loadAG ?_ ?_ HY.out ?_); exact ⟨_, rfl, rfl⟩; rfl) | ((with_reducible refine loadA ?_ ?_ HZ.out ?_); exact ⟨_, rfl, rfl⟩; rfl) | ((with_reducible refine loadAG ?_ ?_ HZ.out ?_); exact ⟨_, rfl, rfl⟩; rfl))
  exact retHs rfl rfl R0.out rfl KY.out (by omega) HW.out
set_option maxHeartbeats 4000000 in
set_option maxRecDepth 100000 in
theorem val3C (a d : Ob) (b o c : Nat) (p : Value) (w : World) (hx : Ad w (.cons a d) b o p) (hc : 1 ≤ c) : Calls Tryz.prog 79 #[.slice (some ⟨b, o, none⟩) 1 c] w (RetH w a) := by
 obtain ⟨b1, o1, n1, pa, pd, rfl, hn1, ha, hd⟩ := hx.hd.cons
 have HX := qh9 hx
 have HA := qh9 ha
 have HD := qh9 hd
 clear hx ha hd
 have T := Bx1.new w #[.int .i64 0, .string ⟨#[]⟩, .string ⟨#[]⟩, .string ⟨#[]⟩, .string ⟨#[]⟩, .string ⟨#[]⟩, .slice none 0 0]
 go_enter Tryz.func79, Tryz.ntmps79
 go_upto_region 1 with fail
 generalize w.alloc (.cells #[.int .i64 0, .string ⟨#[]⟩, .string ⟨#[]⟩, .string ⟨#[]⟩, .string ⟨#[]⟩, .string ⟨#[]⟩, .slice none 0 0] 27) = W at T ⊢
 have R0 := qh9 T.b0
 have HW := qh9 T.bel
 clear T  
 replace HX := qh9 (HX.out.below HW.out)
 replace HA := qh9 (HA.out.below HW.out)
 replace HD := qh9 (HD.out.below HW.out)
 go_wp2_with (first | ((with_reducible refine loadA ?_ ?_ HX.out ?_); exact ⟨_, rfl, rfl⟩; rfl) | ((with_reducible refine loadAG ?_ ?_ HX.out ?_); exact ⟨_, rfl, rfl⟩; rfl) | ((with_reducible refine loadA ?_ ?_ HA.out ?_); exact ⟨_, rfl, rfl⟩; rfl) | ((with_reducible refine loadAG ?_ ?_ HA.out ?_); exact ⟨_, rfl, rfl⟩; rfl) | ((with_reducible refine loadA ?_ ?_ HD.out ?_); exact ⟨_, rfl, rfl⟩; rfl) | ((with_reducible refine loadAG ?_ ?_ HD.out ?_); exact ⟨_, rfl, rfl⟩; rfl))
 with_reducible refine (hasPartsP _ _ _ HX.out.hd).mono ?_
 rintro e w1 ⟨rfl, hb⟩
 replace R0 := qh9 (R0.out.keep hb)
 replace HW := qc9 HW hb
 replace HX := qh9 (HX.out.below hb)
 replace HA := qh9 (HA.out.below hb)
 replace HD := qh9 (HD.out.below hb)
 clear hb
 obtain ⟨m0, m1, m2, m3, m4, m5, m6⟩ := HX.out.k
 have KA := qh9 HA.out.hd
 have KD := qh9 HD.out.hd
 go_wp2_with (first | ((with_reducible refine storeB (w1 := w1) (g := w.heap.size) (b := a) (p := pa) (.tmp 2) (.tmp 14) ?_ ?_ ?_ ?_ KA.out R0.out ?_); rfl; rfl; rfl; rfl) | ((with_reducible refine loadA ?_ ?_ HX.out ?_); exact ⟨_, rfl, rfl⟩; rfl) | ((with_reducible refine loadAG ?_ ?_ HX.out ?_); exact ⟨_, rfl, rfl⟩; rfl) | ((with_reducible refine loadA ?_ ?_ HA.out ?_); exact ⟨_, rfl, rfl⟩; rfl) | ((with_reducible refine loadAG ?_ ?_ HA.out ?_); exact ⟨_, rfl, rfl⟩; rfl) | ((with_reducible refine loadA ?_ ?_ HD.out ?_); exact ⟨_, rfl, rfl⟩; rfl) | ((with_reducible refine loadAG ?_ ?_ HD.out ?_); exact ⟨_, rfl, rfl⟩; rfl))
 exact retHs rfl rfl R0.out rfl KA.out (by omega) HW.out
set_option maxHeartbeats 4000000 in
set_option maxRecDepth 100000 in
theorem val3N (x : Ob) (b o c : Nat) (p : Value) (w : World) (hx : Ad w x b o p) (hc : 1 ≤ c) (hn : x.isCons = false) : Calls Tryz.prog 79 #[.slice (some ⟨b, o, none⟩) 1 c] w (RetH w .nil) := by
 have CP : Hid (∀ W q, Hd W x q → Calls Tryz.prog 128 #[vO x q] W (RetB W false)) := fun W q hq => by rw [← hn]; exact hasPartsP x q W hq
 have HX := qh9 hx
 clear hx
 have T := Bx1.new w #[.int .i64 0, .string ⟨#[]⟩, .string ⟨#[]⟩, .string ⟨#[]⟩, .string ⟨#[]⟩, .string ⟨#[]⟩, .slice none 0 0]
 go_enter Tryz.func79, Tryz.ntmps79
 go_upto_region 1 with fail
 generalize w.alloc (.cells #[.int .i64 0, .string ⟨#[]⟩, .string ⟨#[]⟩, .string ⟨#[]⟩, .string ⟨#[]⟩, .string ⟨#[]⟩, .slice none 0 0] 27) = W at T ⊢
 have R0 := qh9 T.b0
 have HW := qh9 T.bel
 clear T  
 replace HX := qh9 (HX.out.below HW.out)
 go_wp2_with (first | ((with_reducible refine loadA ?_ ?_ HX.out ?_); exact ⟨_, rfl, rfl⟩; rfl) | ((with_reducible refine loadAG ?_ ?_ HX.out ?_); exact ⟨_, rfl, rfl⟩; rfl))
 with_reducible refine (CP.out _ _ HX.out.hd).mono ?_
 rintro e w1 ⟨rfl, hb⟩
 replace R0 := qh9 (R0.out.keep hb)
 replace HW := qc9 HW hb
 replace HX := qh9 (HX.out.below hb)
 clear hb
 go_wp2_with (first | ((with_reducible refine loadA ?_ ?_ HX.out ?_); exact ⟨_, rfl, rfl⟩; rfl) | ((with_reducible refine loadAG ?_ ?_ HX.out ?_); exact ⟨_, rfl, rfl⟩; rfl))
 with_reducible refine (nilH _).mono ?_
 rintro e w2 ⟨pn, rfl, kn, hb⟩
 replace R0 := qh9 (R0.out.keep hb)
 replace HW := qc9 HW hb
 replace HX := qh9 (HX.out.below hb)
 clear hb
 replace kn := qh9 kn
 go_wp2_with (first | ((with_reducible refine storeB (w1 := w2) (g := w.heap.size) (b := .nil) (p := pn) (.tmp 2) (.tmp 8) ?_ ?_ ?_ ?_ kn.out R0.out ?_); rfl; rfl; rfl; rfl) | ((with_reducible refine loadA ?_ ?_ HX.out ?_); exact ⟨_, rfl, rfl⟩; rfl) | ((with_reducible refine loadAG ?_ ?_ HX.out ?_); exact ⟨_, rfl, rfl⟩; rfl))
 exact retHs rfl rfl R0.out rfl kn.out (by omega) HW.out
theorem val3 : ∀ (x : Ob) (b o c : Nat) (p : Value) (w : World) (hx : Ad w x b o p) (hc : 1 ≤ c) , Calls Tryz.prog 79 #[.slice (some ⟨b, o, none⟩) 1 c] w (RetH w x.carV)
 | .cons a d, b, o, c, p, w, hx, hc => val3C a d b o c p w hx hc
 | .num q, b, o, c, p, w, hx, hc => val3N (.num q) b o c p w hx hc rfl
 | .str q, b, o, c, p, w, hx, hc => val3N (.str q) b o c p w hx hc rfl
 | .sym q q', b, o, c, p, w, hx, hc => val3N (.sym q q') b o c p w hx hc rfl
set_option maxHeartbeats 4000000 in
set_option maxRecDepth 100000 in
theorem val4C (a d : Ob) (b o c : Nat) (p : Value) (w : World) (hx : Ad w (.cons a d) b o p) (hc : 1 ≤ c) : Calls Tryz.prog 81 #[.slice (some ⟨b, o, none⟩) 1 c] w (RetH w d) := by
 obtain ⟨b1, o1, n1, pa, pd, rfl, hn1, ha, hd⟩ := hx.hd.cons
 have HX := qh9 hx
 have HA := qh9 ha
 have HD := qh9 hd
 clear hx ha hd
 have T := Bx1.new w #[.int .i64 0, .string ⟨#[]⟩, .string ⟨#[]⟩, .string ⟨#[]⟩, .string ⟨#[]⟩, .string ⟨#[]⟩, .slice none 0 0]
 go_enter Tryz.func81, Tryz.ntmps81
 go_upto_region 1 with fail
 generalize w.alloc (.cells #[.int .i64 0, .string ⟨#[]⟩, .string ⟨#[]⟩, .string ⟨#[]⟩, .string ⟨#[]⟩, .string ⟨#[]⟩, .slice none 0 0] 27) = W at T ⊢
 have R0 := qh9 T.b0
 have HW := qh9 T.bel
 clear T  
 replace HX := qh9 (HX.out.below HW.out)
 replace HA := qh9 (HA.out.below HW.out)
 replace HD := qh9 (HD.out.below HW.out)
 go_wp2_with (first | ((with_reducible refine loadA ?_ ?_ HX.out ?_); exact ⟨_, rfl, rfl⟩; rfl) | ((with_reducible refine loadAG ?_ ?_ HX.out ?_); exact ⟨_, rfl, rfl⟩; rfl) | ((with_reducible refine loadA ?_ ?_ HA.out ?_); exact ⟨_, rfl, rfl⟩; rfl) | ((with_reducible refine loadAG ?_ ?_ HA.out ?_); exact ⟨_, rfl, rfl⟩; rfl) | ((with_reducible refine loadA ?_ ?_ HD.out ?_); exact ⟨_, rfl, rfl⟩; rfl) | ((with_reducible refine loadAG ?_ ?_ HD.out ?_); exact ⟨_, rfl, rfl⟩; rfl))
 with_reducible refine (hasPartsP _ _ _ HX.out.hd).mono ?_
 rintro e w1 ⟨rfl, hb⟩
 replace R0 := qh9 (R0.out.keep hb)
 replace HW := qc9 HW hb
 replace HX := qh9 (HX.out.below hb)
 replace HA := qh9 (HA.out.below hb)
 replace HD := qh9 (HD.out.below hb)
 clear hb
 obtain ⟨m0, m1, m2, m3, m4, m5, m6⟩ := HX.out.k
 have KA := qh9 HA.out.hd
 have KD := qh9 HD.out.hd
 go_wp2_with (first | ((with_reducible refine storeB (w1 := w1) (g := w.heap.size) (b := d) (p := pd) (.tmp 2) (.tmp 14) ?_ ?_ ?_ ?_ KD.out R0.out ?_); rfl; rfl; rfl; rfl) | ((with_reducible refine loadA ?_ ?_ HX.out ?_); exact ⟨_, rfl, rfl⟩; rfl) | ((with_reducible refine loadAG ?_ ?_ HX.out ?_); exact ⟨_, rfl, rfl⟩; rfl) | ((with_reducible refine loadA ?_ ?_ HA.out ?_); exact ⟨_, rfl, rfl⟩; rfl) | ((with_reducible refine loadAG ?_ ?_ HA.out ?_); exact ⟨_, rfl, rfl⟩; rfl) | ((with_reducible refine loadA ?_ ?_ HD.out ?_); exact ⟨_, rfl, rfl⟩; rfl) | ((with_reducible refine loadAG ?_ ?_ HD.out ?_); exact ⟨_, rfl, rfl⟩; rfl))
 exact retHs rfl rfl R0.out rfl KD.out (by omega) HW.out
set_option maxHeartbeats 4000000 in
set_option maxRecDepth 100000 in
theorem val4N (x : Ob) (b o c : Nat) (p : Value) (w : World) (hx : Ad w x b o p) (hc : 1 ≤ c) (hn : x.isCons = false) : Calls Tryz.prog 81 #[.slice (some ⟨b, o, none⟩) 1 c] w (RetH w .nil) := by
 have CP : Hid (∀ W q, Hd W x q → Calls Tryz.prog 128 #[vO x q] W (RetB W false)) := fun W q hq => by rw [← hn]; exact hasPartsP x q W hq
 have HX := qh9 hx
 clear hx
 have T := Bx1.new w #[.int .i64 0, .string ⟨#[]⟩, .string ⟨#[]⟩, .string ⟨#[]⟩, .string ⟨#[]⟩, .string ⟨#[]⟩, .slice none 0 0]
 go_enter Tryz.func81, Tryz.ntmps81
 go_upto_region 1 with fail
 generalize w.alloc (.cells #[.int .i64 0, .string ⟨#[]⟩, .string ⟨#[]⟩, .string ⟨#[]⟩, .string ⟨#[]⟩, .string ⟨#[]⟩, .slice none 0 0] 27) = W at T ⊢
 have R0 := qh9 T.b0
 have HW := qh9 T.bel
 clear T  
 replace HX := qh9 (HX.out.below HW.out)
 go_wp2_with (first | ((with_reducible refine loadA ?_ ?_ HX.out ?_); exact ⟨_, rfl, rfl⟩; rfl) | ((with_reducible refine loadAG ?_ ?_ HX.out ?_); exact ⟨_, rfl, rfl⟩; rfl))
 with_reducible refine (CP.out _ _ HX.out.hd).mono ?_
 rintro e w1 ⟨rfl, hb⟩
 replace R0 := qh9 (R0.out.keep hb)
 replace HW := qc9 HW hb
 replace HX := qh9 (HX.out.below hb)
 clear hb
 go_wp2_with (first | ((with_reducible refine loadA ?_ ?_ HX.out ?_); exact ⟨_, rfl, rfl⟩; rfl) | ((with_reducible refine loadAG ?_ ?_ HX.out ?_); exact ⟨_, rfl, rfl⟩; rfl))
 with_reducible refine (nilH _).mono ?_
 rintro e w2 ⟨pn, rfl, kn, hb⟩
 replace R0 := qh9 (R0.out.keep hb)
 replace HW := qc9 HW hb
 replace HX := qh9 (HX.out.below hb)
 clear hb
 replace kn := qh9 kn
 go_wp2_with (first | ((with_reducible refine storeB (w1 := w2) (g := w.heap.size) (b := .nil) (p := pn) (.tmp 2) (.tmp 8) ?_ ?_ ?_ ?_ kn.out R0.out ?_); rfl; rfl; rfl; rfl) | ((with_reducible refine loadA ?_ ?_ HX.out ?_); exact ⟨_, rfl, rfl⟩; rfl) | ((with_reducible refine loadAG ?_ ?_ HX.out ?_); exact ⟨_, rfl, rfl⟩; rfl))
 exact retHs rfl rfl R0.out rfl kn.out (by omega) HW.out
theorem val4 : ∀ (x : Ob) (b o c : Nat) (p : Value) (w : World) (hx : Ad w x b o p) (hc : 1 ≤ c) , Calls Tryz.prog 81 #[.slice (some ⟨b, o, none⟩) 1 c] w (RetH w x.cdrV)
 | .cons a d, b, o, c, p, w, hx, hc => val4C a d b o c p w hx hc
 | .num q, b, o, c, p, w, hx, hc => val4N (.num q) b o c p w hx hc rfl
 | .str q, b, o, c, p, w, hx, hc => val4N (.str q) b o c p w hx hc rfl
 | .sym q q', b, o, c, p, w, hx, hc => val4N (.sym q q') b o c p w hx hc rfl
set_option maxHeartbeats 4000000 in
set_option maxRecDepth 100000 in
theorem val5 (x : Ob) (b o c : Nat) (p : Value) (w : World) (hx : Ad w x b o p) (hc : 1 ≤ c) : Calls Tryz.prog 82 #[.slice (some ⟨b, o, none⟩) 1 c] w (RetH w (trO x.isCons)) := by
 rw [← kd_cons]
 have CA : Hid (∀ W, Calls Tryz.prog 125 #[.bool (x.kd == 4)] W (RetH W (trO (x.kd == 4)))) := fun W => answerP _ W
 generalize trO (x.kd == 4) = res at CA ⊢
 have HX := qh9 hx
 clear hx
 have T := Bx1.new w #[.int .i64 0, .string ⟨#[]⟩, .string ⟨#[]⟩, .string ⟨#[]⟩, .string ⟨#[]⟩, .string ⟨#[]⟩, .slice none 0 0]
 go_enter Tryz.func82, Tryz.ntmps82
 go_upto_region 1 with fail
 generalize w.alloc (.cells #[.int .i64 0, .string ⟨#[]⟩, .string ⟨#[]⟩, .string ⟨#[]⟩, .string ⟨#[]⟩, .string ⟨#[]⟩, .slice none 0 0] 27) = W at T ⊢
 have R0 := qh9 T.b0
 have HW := qh9 T.bel
 clear T  
 replace HX := qh9 (HX.out.below HW.out)
 obtain ⟨m0, m1, m2, m3, m4, m5, m6⟩ := HX.out.k
 clear HX
 clear m1 m2 m3 m4 m5 m6
 generalize x.kd = k at m0 CA
 go_wp2_with fail
 with_reducible refine (CA.out _).mono ?_
 rintro e w1 ⟨pr, rfl, kr, hb⟩
 replace R0 := qh9 (R0.out.keep hb)
 replace HW := qc9 HW hb
 clear hb
 replace kr := qh9 kr
 go_wp2_with ((with_reducible refine storeB (w1 := w1) (g := w.heap.size) (b := res) (p := pr) (.tmp 2) (.tmp 8) ?_ ?_ ?_ ?_ kr.out R0.out ?_); rfl; rfl; rfl; rfl)
 exact retHs rfl rfl R0.out rfl kr.out (by omega) HW.out
set_option maxHeartbeats 4000000 in
set_option maxRecDepth 100000 in
theorem val6 (x : Ob) (b o c : Nat) (p : Value) (w : World) (hx : Ad w x b o p) (hc : 1 ≤ c) : Calls Tryz.prog 83 #[.slice (some ⟨b, o, none⟩) 1 c] w (RetH w (trO x.isSymB)) := by
 rw [← kd_sym]
 have CA : Hid (∀ W, Calls Tryz.prog 125 #[.bool (x.kd == 2)] W (RetH W (trO (x.kd == 2)))) := fun W => answerP _ W
 generalize trO (x.kd == 2) = res at CA ⊢
 have HX := qh9 hx
 clear hx
 have T := Bx1.new w #[.int .i64 0, .string ⟨#[]⟩, .string ⟨#[]⟩, .string ⟨#[]⟩, .string ⟨#[]⟩, .string ⟨#[]⟩, .slice none 0 0]
 go_enter Tryz.func83, Tryz.ntmps83
 go_upto_region 1 with fail
 generalize w.alloc (.cells #[.int .i64 0, .string ⟨#[]⟩, .string ⟨#[]⟩, .string ⟨#[]⟩, .string ⟨#[]⟩, .string ⟨#[]⟩, .slice none 0 0] 27) = W at T ⊢
 have R0 := qh9 T.b0
 have HW := qh9 T.bel
 clear T  
 replace HX := qh9 (HX.out.below HW.out)
 obtain ⟨m0, m1, m2, m3, m4, m5, m6⟩ := HX.out.k
 clear HX
 clear m1 m2 m3 m4 m5 m6
 generalize x.kd = k at m0 CA
 go_wp2_with fail
 with_reducible refine (CA.out _).mono ?_
 rintro e w1 ⟨pr, rfl, kr, hb⟩
 replace R0 := qh9 (R0.out.keep hb)
 replace HW := qc9 HW hb
 clear hb
 replace kr := qh9 kr
 go_wp2_with ((with_reducible refine storeB (w1 := w1) (g := w.heap.size) (b := res) (p := pr) (.tmp 2) (.tmp 8) ?_ ?_ ?_ ?_ kr.out R0.out ?_); rfl; rfl; rfl; rfl)
 exact retHs rfl rfl R0.out rfl kr.out (by omega) HW.out
set_option maxHeartbeats 4000000 in
set_option maxRecDepth 100000 in
theorem val7 (x : Ob) (b o c : Nat) (p : Value) (w : World) (hx : Ad w x b o p) (hc : 1 ≤ c) : Calls Tryz.prog 84 #[.slice (some ⟨b, o, none⟩) 1 c] w (RetH w (trO x.isStrB)) := by
 rw [← kd_str]
 have CA : Hid (∀ W, Calls Tryz.prog 125 #[.bool (x.kd == 3)] W (RetH W (trO (x.kd == 3)))) := fun W => answerP _ W
 generalize trO (x.kd == 3) = res at CA ⊢
 have HX := qh9 hx
 clear hx
 have T := Bx1.new w #[.int .i64 0, .string ⟨#[]⟩, .string ⟨#[]⟩, .string ⟨#[]⟩, .string ⟨#[]⟩, .string ⟨#[]⟩, .slice none 0 0]
 go_enter Tryz.func84, Tryz.ntmps84
 go_upto_region 1 with fail
 generalize w.alloc (.cells #[.int .i64 0, .string ⟨#[]⟩, .string ⟨#[]⟩, .string ⟨#[]⟩, .string ⟨#[]⟩, .string ⟨#[]⟩, .slice none 0 0] 27) = W at T ⊢
 have R0 := qh9 T.b0
 have HW := qh9 T.bel
 clear T  
 replace HX := qh9 (HX.out.below HW.out)
 obtain ⟨m0, m1, m2, m3, m4, m5, m6⟩ := HX.out.k
 clear HX
 clear m1 m2 m3 m4 m5 m6
 generalize x.kd = k at m0 CA
 go_wp2_with fail
 with_reducible refine (CA.out _).mono ?_
 rintro e w1 ⟨pr, rfl, kr, hb⟩
 replace R0 := qh9 (R0.out.keep hb)
 replace HW := qc9 HW hb
 clear hb
 replace kr := qh9 kr
 go_wp2_with ((with_reducible refine storeB (w1 := w1) (g := w.heap.size) (b := res) (p := pr) (.tmp 2) (.tmp 8) ?_ ?_ ?_ ?_ kr.out R0.out ?_); rfl; rfl; rfl; rfl)
 exact retHs rfl rfl R0.out rfl kr.out (by omega) HW.out
set_option maxHeartbeats 4000000 in
set_option maxRecDepth 100000 in
theorem val8 (x : Ob) (b o c : Nat) (p : Value) (w : World) (hx : Ad w x b o p) (hc : 1 ≤ c) : Calls Tryz.prog 85 #[.slice (some ⟨b, o, none⟩) 1 c] w (RetH w (trO x.isNumB)) := by
 rw [← kd_num]
 have CA : Hid (∀ W, Calls Tryz.prog 125 #[.bool (x.kd == 1)] W (RetH W (trO (x.kd == 1)))) := fun W => answerP _ W
 generalize trO (x.kd == 1) = res at CA ⊢
 have HX := qh9 hx
 clear hx
 have T := Bx1.new w #[.int .i64 0, .string ⟨#[]⟩, .string ⟨#[]⟩, .string ⟨#[]⟩, .string ⟨#[]⟩, .string ⟨#[]⟩, .slice none 0 0]
 go_enter Tryz.func85, Tryz.ntmps85
 go_upto_region 1 with fail
 generalize w.alloc (.cells #[.int .i64 0, .string ⟨#[]⟩, .string ⟨#[]⟩, .string ⟨#[]⟩, .string ⟨#[]⟩, .string ⟨#[]⟩, .slice none 0 0] 27) = W at T ⊢
 have R0 := qh9 T.b0
 have HW := qh9 T.bel
 clear T  
 replace HX := qh9 (HX.out.below HW.out)
 obtain ⟨m0, m1, m2, m3, m4, m5, m6⟩ := HX.out.k
 clear HX
 clear m1 m2 m3 m4 m5 m6
 generalize x.kd = k at m0 CA
 go_wp2_with fail
 with_reducible refine (CA.out _).mono ?_
 rintro e w1 ⟨pr, rfl, kr, hb⟩
 replace R0 := qh9 (R0.out.keep hb)
 replace HW := qc9 HW hb
 clear hb
 replace kr := qh9 kr
 go_wp2_with ((with_reducible refine storeB (w1 := w1) (g := w.heap.size) (b := res) (p := pr) (.tmp 2) (.tmp 8) ?_ ?_ ?_ ?_ kr.out R0.out ?_); rfl; rfl; rfl; rfl)
 exact retHs rfl rfl R0.out rfl kr.out (by omega) HW.out
set_option maxHeartbeats 4000000 in
set_option maxRecDepth 100000 in
theorem val9 (x : Ob) (b o c : Nat) (p : Value) (w : World) (hx : Ad w x b o p) (hc : 1 ≤ c) : Calls Tryz.prog 86 #[.slice (some ⟨b, o, none⟩) 1 c] w (RetH w (trO x.isInt)) := by
 have CI : Hid (∀ W q, Calls Tryz.prog 130 #[vO x q] W (RetB W x.isInt)) := fun W q => isIntegerP x q W
 generalize x.isInt = v at CI ⊢
 have HX := qh9 hx
 clear hx
 have T := Bx1.new w #[.int .i64 0, .string ⟨#[]⟩, .string ⟨#[]⟩, .string ⟨#[]⟩, .string ⟨#[]⟩, .string ⟨#[]⟩, .slice none 0 0]
 go_enter Tryz.func86, Tryz.ntmps86
 go_upto_region 1 with fail
 generalize w.alloc (.cells #[.int .i64 0, .string ⟨#[]⟩, .string ⟨#[]⟩, .string ⟨#[]⟩, .string ⟨#[]⟩, .string ⟨#[]⟩, .slice none 0 0] 27) = W at T ⊢
 have R0 := qh9 T.b0
 have HW := qh9 T.bel
 clear T  
 replace HX := qh9 (HX.out.below HW.out)
 go_wp2_with (first | ((with_reducible refine loadA ?_ ?_ HX.out ?_); exact ⟨_, rfl, rfl⟩; rfl) | ((with_reducible refine loadAG ?_ ?_ HX.out ?_); exact ⟨_, rfl, rfl⟩; rfl))
 with_reducible refine (CI.out _ _).mono ?_
 rintro e w1 ⟨rfl, hb⟩
 replace R0 := qh9 (R0.out.keep hb)
 replace HW := qc9 HW hb
 replace HX := qh9 (HX.out.below hb)
 clear hb
 go_wp2_with (first | ((with_reducible refine loadA ?_ ?_ HX.out ?_); exact ⟨_, rfl, rfl⟩; rfl) | ((with_reducible refine loadAG ?_ ?_ HX.out ?_); exact ⟨_, rfl, rfl⟩; rfl))
 with_reducible refine (answerP v _).mono ?_
 rintro e w2 ⟨pr, rfl, kr, hb⟩
 replace R0 := qh9 (R0.out.keep hb)
 replace HW := qc9 HW hb
 replace HX := qh9 (HX.out.below hb)
 clear hb
 replace kr := qh9 kr
 go_wp2_with (first | ((with_reducible refine storeB (w1 := w2) (g := w.heap.size) (b := trO v) (p := pr) (.tmp 2) (.tmp 7) ?_ ?_ ?_ ?_ kr.out R0.out ?_); rfl; rfl; rfl; rfl) | ((with_reducible refine loadA ?_ ?_ HX.out ?_); exact ⟨_, rfl, rfl⟩; rfl) | ((with_reducible refine loadAG ?_ ?_ HX.out ?_); exact ⟨_, rfl, rfl⟩; rfl))
 exact retHs rfl rfl R0.out rfl kr.out (by omega) HW.out
set_option maxHeartbeats 4000000 in
set_option maxRecDepth 100000 in
theorem val12 (x : Ob) (b o c : Nat) (p : Value) (w : World) (hx : Ad w x b o p) (hc : 1 ≤ c) (d : Nat) (hd : d ≤ 1000) (hb : Bd d x.fix) (ht : Tab w) : Calls Tryz.prog 90 #[.slice (some ⟨b, o, none⟩) 1 c] w (RetH w (.num (-x.fix))) := by
 have CO : Hid (∀ W q, Hd W x q → Tab W → Calls Tryz.prog 134 #[vO x q] W (RetH W (.num (-x.fix)))) := fun W q hq hT => (oppositeP d hd x q W (Has W) hq hb hT).mono fun _ _ h => h.h
 generalize (.num (-x.fix) : Ob) = res at CO ⊢
 clear hb
 have HX := qh9 hx
 clear hx
 have T := Bx1.new w #[.int .i64 0, .string ⟨#[]⟩, .string ⟨#[]⟩, .string ⟨#[]⟩, .string ⟨#[]⟩, .string ⟨#[]⟩, .slice none 0 0]
 go_enter Tryz.func90, Tryz.ntmps90
 go_upto_region 1 with fail
 generalize w.alloc (.cells #[.int .i64 0, .string ⟨#[]⟩, .string ⟨#[]⟩, .string ⟨#[]⟩, .string ⟨#[]⟩, .string ⟨#[]⟩, .slice none 0 0] 27) = W at T ⊢
 have R0 := qh9 T.b0
 have HW := qh9 T.bel
 have HT := qh9 (ht.below T.bel)
 clear T   ht
 replace HX := qh9 (HX.out.below HW.out)
 go_wp2_with (first | ((with_reducible refine loadA ?_ ?_ HX.out ?_); exact ⟨_, rfl, rfl⟩; rfl) | ((with_reducible refine loadAG ?_ ?_ HX.out ?_); exact ⟨_, rfl, rfl⟩; rfl))
 with_reducible refine (CO.out _ _ HX.out.hd HT.out).mono ?_
 rintro e w1 ⟨pr, rfl, kr, hb⟩
 replace R0 := qh9 (R0.out.keep hb)
 replace HW := qc9 HW hb
 replace HT := qh9 (HT.out.below hb)
 replace HX := qh9 (HX.out.below hb)
 clear hb
 replace kr := qh9 kr
 go_wp2_with (first | ((with_reducible refine storeB (w1 := w1) (g := w.heap.size) (b := res) (p := pr) (.tmp 2) (.tmp 6) ?_ ?_ ?_ ?_ kr.out R0.out ?_); rfl; rfl; rfl; rfl) | ((with_reducible refine loadA ?_ ?_ HX.out ?_); exact ⟨_, rfl, rfl⟩; rfl) | ((with_reducible refine loadAG ?_ ?_ HX.out ?_); exact ⟨_, rfl, rfl⟩; rfl))
 exact retHs rfl rfl R0.out rfl kr.out (by omega) HW.out
set_option maxHeartbeats 4000000 in
set_option maxRecDepth 100000 in
theorem val13 (x : Ob) (b o c : Nat) (p : Value) (w : World) (hx : Ad w x b o p) (hc : 1 ≤ c) (d : Nat) (hd : d ≤ 1000) (hb : Bd d x.fix) (ht : Tab w) : Calls Tryz.prog 91 #[.slice (some ⟨b, o, none⟩) 1 c] w (RetH w (.num (x.fix⁻¹))) := by
 have CO : Hid (∀ W q, Hd W x q → Tab W → Calls Tryz.prog 135 #[vO x q] W (RetH W (.num (x.fix⁻¹)))) := fun W q hq hT => (reciprocalP d hd x q W (Has W) hq hb hT).mono fun _ _ h => h.h
 generalize (.num (x.fix⁻¹) : Ob) = res at CO ⊢
 clear hb
 have HX := qh9 hx
 clear hx
 have T := Bx1.new w #[.int .i64 0, .string ⟨#[]⟩, .string ⟨#[]⟩, .string ⟨#[]⟩, .string ⟨#[]⟩, .string ⟨#[]⟩, .slice none 0 0]
 go_enter Tryz.func91, Tryz.ntmps91
 go_upto_region 1 with fail
 generalize w.alloc (.cells #[.int .i64 0, .string ⟨#[]⟩, .string ⟨#[]⟩, .string ⟨#[]⟩, .string ⟨#[]⟩, .string ⟨#[]⟩, .slice none 0 0] 27) = W at T ⊢
 have R0 := qh9 T.b0
 have HW := qh9 T.bel
 have HT := qh9 (ht.below T.bel)
 clear T   ht
 replace HX := qh9 (HX.out.below HW.out)
 go_wp2_with (first | ((with_reducible refine loadA ?_ ?_ HX.out ?_); exact ⟨_, rfl, rfl⟩; rfl) | ((with_reducible refine loadAG ?_ ?_ HX.out ?_); exact ⟨_, rfl, rfl⟩; rfl))
 with_reducible refine (CO.out _ _ HX.out.hd HT.out).mono ?_
 rintro e w1 ⟨pr, rfl, kr, hb⟩
 replace R0 := qh9 (R0.out.keep hb)
 replace HW := qc9 HW hb
 replace HT := qh9 (HT.out.below hb)
 replace HX := qh9 (HX.out.below hb)
 clear hb
 replace kr := qh9 kr
 go_wp2_with (first | ((with_reducible refine storeB (w1 := w1) (g := w.heap.size) (b := res) (p := pr) (.tmp 2) (.tmp 6) ?_ ?_ ?_ ?_ kr.out R0.out ?_); rfl; rfl; rfl; rfl) | ((with_reducible refine loadA ?_ ?_ HX.out ?_); exact ⟨_, rfl, rfl⟩; rfl) | ((with_reducible refine loadAG ?_ ?_ HX.out ?_); exact ⟨_, rfl, rfl⟩; rfl))
 exact retHs rfl rfl R0.out rfl kr.out (by omega) HW.out
set_option maxHeartbeats 4000000 in
set_option maxRecDepth 100000 in
theorem val15 (x : Ob) (b o c : Nat) (p : Value) (w : World) (hx : Ad w x b o p) (hc : 1 ≤ c) (d : Nat) (hd : d ≤ 1000) (hb : Bd d x.fix) : Calls Tryz.prog 94 #[.slice (some ⟨b, o, none⟩) 1 c] w (RetH w (inO x.fix.num)) := by
 have CF : Hid (∀ W q, Calls Tryz.prog 139 #[vO x q] W (RetY2 W (nt x.fix) (dt x.fix))) := fun W q => fractionP x q W
 have CG : Hid (∀ W, Calls Tryz.prog 140 #[.string (nt x.fix)] W (RetH W (inO x.fix.num))) := fun W => integerP x.fix.num W (by have := bd_nt hb; have e : BA (text x.fix.num) = nt x.fix := rfl; rw [e]; omega)
 clear hb
 generalize (inO x.fix.num : Ob) = res at CG ⊢
 generalize nt x.fix = s1 at *
 generalize dt x.fix = s2 at *
 have HX := qh9 hx
 clear hx
 have T := Bx1.new w #[.int .i64 0, .string ⟨#[]⟩, .string ⟨#[]⟩, .string ⟨#[]⟩, .string ⟨#[]⟩, .string ⟨#[]⟩, .slice none 0 0]
 go_enter Tryz.func94, Tryz.ntmps94
 go_upto_region 1 with fail
 generalize w.alloc (.cells #[.int .i64 0, .string ⟨#[]⟩, .string ⟨#[]⟩, .string ⟨#[]⟩, .string ⟨#[]⟩, .string ⟨#[]⟩, .slice none 0 0] 27) = W at T ⊢
 have R0 := qh9 T.b0
 have HW := qh9 T.bel
 clear T  
 replace HX := qh9 (HX.out.below HW.out)
 go_wp2_with (first | ((with_reducible refine loadA ?_ ?_ HX.out ?_); exact ⟨_, rfl, rfl⟩; rfl) | ((with_reducible refine loadAG ?_ ?_ HX.out ?_); exact ⟨_, rfl, rfl⟩; rfl))
 with_reducible refine (CF.out _ _).mono ?_
 rintro e w1 ⟨rfl, hb⟩
 replace R0 := qh9 (R0.out.keep hb)
 replace HW := qc9 HW hb
 replace HX := qh9 (HX.out.below hb)
 clear hb
 go_wp2_with (first | ((with_reducible refine loadA ?_ ?_ HX.out ?_); exact ⟨_, rfl, rfl⟩; rfl) | ((with_reducible refine loadAG ?_ ?_ HX.out ?_); exact ⟨_, rfl, rfl⟩; rfl))
 with_reducible refine (CG.out _).mono ?_
 rintro e w2 ⟨pr, rfl, kr, hb⟩
 replace R0 := qh9 (R0.out.keep hb)
 replace HW := qc9 HW hb
 replace HX := qh9 (HX.out.below hb)
 clear hb
 replace kr := qh9 kr
 go_wp2_with (first | ((with_reducible refine storeB (w1 := w2) (g := w.heap.size) (b := res) (p := pr) (.tmp 2) (.tmp 13) ?_ ?_ ?_ ?_ kr.out R0.out ?_); rfl; rfl; rfl; rfl) | ((with_reducible refine loadA ?_ ?_ HX.out ?_); exact ⟨_, rfl, rfl⟩; rfl) | ((with_reducible refine loadAG ?_ ?_ HX.out ?_); exact ⟨_, rfl, rfl⟩; rfl))
 exact retHs rfl rfl R0.out rfl kr.out (by omega) HW.out
set_option maxHeartbeats 4000000 in
set_option maxRecDepth 100000 in
theorem val16 (x : Ob) (b o c : Nat) (p : Value) (w : World) (hx : Ad w x b o p) (hc : 1 ≤ c) (d : Nat) (hd : d ≤ 1000) (hb : Bd d x.fix) : Calls Tryz.prog 95 #[.slice (some ⟨b, o, none⟩) 1 c] w (RetH w (inO x.fix.den)) := by
 have CF : Hid (∀ W q, Calls Tryz.prog 139 #[vO x q] W (RetY2 W (nt x.fix) (dt x.fix))) := fun W q => fractionP x q W
 have CG : Hid (∀ W, Calls Tryz.prog 140 #[.string (dt x.fix)] W (RetH W (inO x.fix.den))) := fun W => integerP (x.fix.den : Int) W (by have := bd_dt hb; have e : BA (text (x.fix.den : Int)) = dt x.fix := rfl; rw [e]; omega)
 clear hb
 generalize (inO x.fix.den : Ob) = res at CG ⊢
 generalize nt x.fix = s1 at *
 generalize dt x.fix = s2 at *
 have HX := qh9 hx
 clear hx
 have T := Bx1.new w #[.int .i64 0, .string ⟨#[]⟩, .string ⟨#[]⟩, .string ⟨#[]⟩, .string ⟨#[]⟩, .string ⟨#[]⟩, .slice none 0 0]
 go_enter Tryz.func95, Tryz.ntmps95
 go_upto_region 1 with fail
 generalize w.alloc (.cells #[.int .i64 0, .string ⟨#[]⟩, .string ⟨#[]⟩, .string ⟨#[]⟩, .string ⟨#[]⟩, .string ⟨#[]⟩, .slice none 0 0] 27) = W at T ⊢
 have R0 := qh9 T.b0
 have HW := qh9 T.bel
 clear T  
 replace HX := qh9 (HX.out.below HW.out)
 go_wp2_with (first | ((with_reducible refine loadA ?_ ?_ HX.out ?_); exact ⟨_, rfl, rfl⟩; rfl) | ((with_reducible refine loadAG ?_ ?_ HX.out ?_); exact ⟨_, rfl, rfl⟩; rfl))
 with_reducible refine (CF.out _ _).mono ?_
 rintro e w1 ⟨rfl, hb⟩
 replace R0 := qh9 (R0.out.keep hb)
 replace HW := qc9 HW hb
 replace HX := qh9 (HX.out.below hb)
 clear hb
 go_wp2_with (first | ((with_reducible refine loadA ?_ ?_ HX.out ?_); exact ⟨_, rfl, rfl⟩; rfl) | ((with_reducible refine loadAG ?_ ?_ HX.out ?_); exact ⟨_, rfl, rfl⟩; rfl))
 with_reducible refine (CG.out _).mono ?_
 rintro e w2 ⟨pr, rfl, kr, hb⟩
 replace R0 := qh9 (R0.out.keep hb)
 replace HW := qc9 HW hb
 replace HX := qh9 (HX.out.below hb)
 clear hb
 replace kr := qh9 kr
 go_wp2_with (first | ((with_reducible refine storeB (w1 := w2) (g := w.heap.size) (b := res) (p := pr) (.tmp 2) (.tmp 13) ?_ ?_ ?_ ?_ kr.out R0.out ?_); rfl; rfl; rfl; rfl) | ((with_reducible refine loadA ?_ ?_ HX.out ?_); exact ⟨_, rfl, rfl⟩; rfl) | ((with_reducible refine loadAG ?_ ?_ HX.out ?_); exact ⟨_, rfl, rfl⟩; rfl))
 exact retHs rfl rfl R0.out rfl kr.out (by omega) HW.out
theorem drem_pos (b : Bool) (n m : Nat) (hm : m ≠ 0) : dquo b n false m * (m : Int) + drem b n false m = zval b n ∧ 0 ≤ drem b n false m ∧ drem b n false m < m := by
 have hlt : n % m < m := Nat.mod_lt _ (Nat.pos_of_ne_zero hm)
 have hs : ((m - n % m : Nat) : Int) = (m : Int) - ((n % m : Nat) : Int) := by omega
 have h : ((n : Nat) : Int) = ((n / m : Nat) : Int) * (m : Int) + ((n % m : Nat) : Int) := by
  have := Nat.div_add_mod n m
  rw [Nat.mul_comm] at this
  exact_mod_cast this.symm
 unfold dquo drem divUp
 generalize n / m = q at *
 generalize n % m = r at *
 by_cases hr0 : r = 0
 · subst hr0
   cases b
   · simp [zval] at h ⊢; omega
   · simp [zval] at h ⊢; rw [h]; simp [Int.neg_mul]; omega
 · have hb : (r != 0) = true := by simpa using hr0
   cases b
   · simp [hb, zval] at h ⊢; rw [h]; omega
   · simp only [hb, zval, Bool.bne_false, Bool.and_self, if_true, Bool.false_eq_true, if_false]
     rw [hs, h]
     refine ⟨?_, by omega, by omega⟩
     simp [Int.neg_mul, Int.add_mul]
     omega
theorem floor_eq (q : Rat) : dquo (neg (LA (nt q))) (mag (LA (nt q))) (neg (LA (dt q))) (mag (LA (dt q))) = q.num / (q.den : Int) := by
 have e1 : neg (LA (dt q)) = false := by
  show neg (LA (BA (text _))) = false
  rw [LA_BA]
  unfold text
  rw [neg_signText, decide_eq_false (by omega)]
  rfl
 have e2 : mag (LA (dt q)) = q.den := by
  show mag (LA (BA (text _))) = _
  rw [LA_BA]
  unfold text
  rw [mag_signText]
  omega
 have e3 : zval (neg (LA (nt q))) (mag (LA (nt q))) = q.num := by
  have := val_nt q
  unfold val at this
  exact this
 rw [e1, e2]
 have hd := q.den_nz
 obtain ⟨h1, h2, h3⟩ := drem_pos (neg (LA (nt q))) (mag (LA (nt q))) q.den hd
 rw [e3] at h1
 generalize drem (neg (LA (nt q))) (mag (LA (nt q))) false q.den = r at *
 generalize dquo (neg (LA (nt q))) (mag (LA (nt q))) false q.den = k at *
 rw [← h1, Int.add_comm, Int.add_mul_ediv_right _ _ (by omega), Int.ediv_eq_zero_of_lt h2 h3]
 omega
theorem mag_dt (q : Rat) : mag (LA (dt q)) ≠ 0 := by
 have e2 : mag (LA (dt q)) = q.den := by
  show mag (LA (BA (text _))) = _
  rw [LA_BA]
  unfold text
  rw [mag_signText]
  omega
 rw [e2]
 exact q.den_nz
set_option maxHeartbeats 4000000 in
set_option maxRecDepth 100000 in
theorem val17 (x : Ob) (b o c : Nat) (p : Value) (w : World) (hx : Ad w x b o p) (hc : 1 ≤ c) (d : Nat) (hd : d ≤ 1000) (hb : Bd d x.fix) : Calls Tryz.prog 96 #[.slice (some ⟨b, o, none⟩) 1 c] w (RetH w (inO (x.fix.num / (x.fix.den : Int)))) := by
 have CF : Hid (∀ W q, Calls Tryz.prog 139 #[vO x q] W (RetY2 W (nt x.fix) (dt x.fix))) := fun W q => fractionP x q W
 have s1 := bd_nt hb
 have s2 := bd_dt hb
 have CD : Hid (∀ W, Calls Tryz.prog 141 #[.string (nt x.fix), .string (dt x.fix)] W (fun e w' => ∃ y, e = .returned (.tuple #[.string (BA (text (x.fix.num / (x.fix.den : Int)))), y]) ∧ Below W.heap.size W w')) := fun W =>
  (divide_any (nt x.fix) (dt x.fix) W (by omega) (by omega) (mag_dt _)).mono fun e w' h => by
    obtain ⟨h1, h2⟩ := h
    rw [floor_eq] at h1
    exact ⟨_, h1, h2⟩
 have CG : Hid (∀ W, Calls Tryz.prog 140 #[.string (BA (text (x.fix.num / (x.fix.den : Int))))] W (RetH W (inO (x.fix.num / (x.fix.den : Int))))) := fun W => integerP _ W (by
  have h1 : (x.fix.num / (x.fix.den : Int)).natAbs < 10 ^ d := Nat.lt_of_le_of_lt (Int.natAbs_ediv_le_natAbs _ _) hb.1
  have := text_length h1
  rw [BA_size]; omega)
 clear hb s1 s2
 generalize inO (x.fix.num / (x.fix.den : Int)) = res at CG ⊢
 generalize BA (text (x.fix.num / (x.fix.den : Int))) = s3 at CD CG
 generalize nt x.fix = s1 at *
 generalize dt x.fix = s2 at *
 have HX := qh9 hx
 clear hx
 have T := Bx1.new w #[.int .i64 0, .string ⟨#[]⟩, .string ⟨#[]⟩, .string ⟨#[]⟩, .string ⟨#[]⟩, .string ⟨#[]⟩, .slice none 0 0]
 go_enter Tryz.func96, Tryz.ntmps96
 go_upto_region 1 with fail
 generalize w.alloc (.cells #[.int .i64 0, .string ⟨#[]⟩, .string ⟨#[]⟩, .string ⟨#[]⟩, .string ⟨#[]⟩, .string ⟨#[]⟩, .slice none 0 0] 27) = W at T ⊢
 have R0 := qh9 T.b0
 have HW := qh9 T.bel
 clear T  
 replace HX := qh9 (HX.out.below HW.out)
 go_wp2_with (first | ((with_reducible refine loadA ?_ ?_ HX.out ?_); exact ⟨_, rfl, rfl⟩; rfl) | ((with_reducible refine loadAG ?_ ?_ HX.out ?_); exact ⟨_, rfl, rfl⟩; rfl))
 with_reducible refine (CF.out _ _).mono ?_
 rintro e w1 ⟨rfl, hb⟩
 replace R0 := qh9 (R0.out.keep hb)
 replace HW := qc9 HW hb
 replace HX := qh9 (HX.out.below hb)
 clear hb
 go_wp2_with (first | ((with_reducible refine loadA ?_ ?_ HX.out ?_); exact ⟨_, rfl, rfl⟩; rfl) | ((with_reducible refine loadAG ?_ ?_ HX.out ?_); exact ⟨_, rfl, rfl⟩; rfl))
 with_reducible refine (CD.out _).mono ?_
 rintro e w2 ⟨y, rfl, hb⟩
 replace R0 := qh9 (R0.out.keep hb)
 replace HW := qc9 HW hb
 replace HX := qh9 (HX.out.below hb)
 clear hb
 go_wp2_with (first | ((with_reducible refine loadA ?_ ?_ HX.out ?_); exact ⟨_, rfl, rfl⟩; rfl) | ((with_reducible refine loadAG ?_ ?_ HX.out ?_); exact ⟨_, rfl, rfl⟩; rfl))
 with_reducible refine (CG.out _).mono ?_
 rintro e w3 ⟨pr, rfl, kr, hb⟩
 replace R0 := qh9 (R0.out.keep hb)
 replace HW := qc9 HW hb
 replace HX := qh9 (HX.out.below hb)
 clear hb
 replace kr := qh9 kr
 go_wp2_with (first | ((with_reducible refine storeB (w1 := w3) (g := w.heap.size) (b := res) (p := pr) (.tmp 2) (.tmp 16) ?_ ?_ ?_ ?_ kr.out R0.out ?_); rfl; rfl; rfl; rfl) | ((with_reducible refine loadA ?_ ?_ HX.out ?_); exact ⟨_, rfl, rfl⟩; rfl) | ((with_reducible refine loadAG ?_ ?_ HX.out ?_); exact ⟨_, rfl, rfl⟩; rfl))
 exact retHs rfl rfl R0.out rfl kr.out (by omega) HW.out
set_option maxHeartbeats 4000000 in
set_option maxRecDepth 100000 in
theorem val18 (x : Ob) (b o c : Nat) (p : Value) (w : World) (hx : Ad w x b o p) (hc : 1 ≤ c) : Calls Tryz.prog 97 #[.slice (some ⟨b, o, none⟩) 1 c] w (RetH w (.str x.symN)) := by
 have hs : x.symN = LA (if x.kd == 2 then x.f4 else ⟨#[]⟩) := by cases x <;> first | rfl | exact (LA_BA _).symm
 rw [hs]
 clear hs
 have HX := qh9 hx
 clear hx
 have T := Bx1.new w #[.int .i64 0, .string ⟨#[]⟩, .string ⟨#[]⟩, .string ⟨#[]⟩, .string ⟨#[]⟩, .string ⟨#[]⟩, .slice none 0 0]
 go_enter Tryz.func97, Tryz.ntmps97
 go_upto_region 1 with fail
 generalize w.alloc (.cells #[.int .i64 0, .string ⟨#[]⟩, .string ⟨#[]⟩, .string ⟨#[]⟩, .string ⟨#[]⟩, .string ⟨#[]⟩, .slice none 0 0] 27) = W at T ⊢
 have R0 := qh9 T.b0
 have HW := qh9 T.bel
 clear T  
 replace HX := qh9 (HX.out.below HW.out)
 obtain ⟨m0, m1, m2, m3, m4, m5, m6⟩ := HX.out.k
 clear HX
 generalize x.kd = k at *
 generalize x.f4 = s at *
 cases hk : (k == 2) with
 | true =>
  have hk2 : k = 2 := by simpa using hk
  clear hk
  subst hk2
  go_wp2_with fail
  with_reducible refine (textH _ _).mono ?_
  rintro e w1 ⟨pr, rfl, kr, hb⟩
  replace R0 := qh9 (R0.out.keep hb)
  replace HW := qc9 HW hb
  clear hb
  replace kr := qh9 kr
  go_wp2_with ((with_reducible refine storeB (w1 := w1) (g := w.heap.size) (b := .str (LA s)) (p := pr) (.tmp 2) (.tmp 14) ?_ ?_ ?_ ?_ kr.out R0.out ?_); rfl; rfl; rfl; rfl)
  exact retHs rfl rfl R0.out rfl kr.out (by omega) HW.out
 | false =>
  have hk2 : ¬ k = 2 := by simpa using hk
  clear hk
  go_wp2_with fail
  with_reducible refine (textH _ _).mono ?_
  rintro e w1 ⟨pr, rfl, kr, hb⟩
  replace R0 := qh9 (R0.out.keep hb)
  replace HW := qc9 HW hb
  clear hb
  replace kr := qh9 kr
  go_wp2_with ((with_reducible refine storeB (w1 := w1) (g := w.heap.size) (b := .str (LA ⟨#[]⟩)) (p := pr) (.tmp 2) (.tmp 8) ?_ ?_ ?_ ?_ kr.out R0.out ?_); rfl; rfl; rfl; rfl)
  exact retHs rfl rfl R0.out rfl kr.out (by omega) HW.out
set_option maxHeartbeats 4000000 in
set_option maxRecDepth 100000 in
theorem val19 (x : Ob) (b o c : Nat) (p : Value) (w : World) (hx : Ad w x b o p) (hc : 1 ≤ c) : Calls Tryz.prog 99 #[.slice (some ⟨b, o, none⟩) 1 c] w (RetH w (.str x.symP)) := by
 have hs : x.symP = LA (if x.kd == 2 then x.f3 else ⟨#[]⟩) := by cases x <;> first | rfl | exact (LA_BA _).symm
 rw [hs]
 clear hs
 have HX := qh9 hx
 clear hx
 have T := Bx1.new w #[.int .i64 0, .string ⟨#[]⟩, .string ⟨#[]⟩, .string ⟨#[]⟩, .string ⟨#[]⟩, .string ⟨#[]⟩, .slice none 0 0]
 go_enter Tryz.func99, Tryz.ntmps99
 go_upto_region 1 with fail
 generalize w.alloc (.cells #[.int .i64 0, .string ⟨#[]⟩, .string ⟨#[]⟩, .string ⟨#[]⟩, .string ⟨#[]⟩, .string ⟨#[]⟩, .slice none 0 0] 27) = W at T ⊢
 have R0 := qh9 T.b0
 have HW := qh9 T.bel
 clear T  
 replace HX := qh9 (HX.out.below HW.out)
 obtain ⟨m0, m1, m2, m3, m4, m5, m6⟩ := HX.out.k
 clear HX
 generalize x.kd = k at *
 generalize x.f3 = s at *
 cases hk : (k == 2) with
 | true =>
  have hk2 : k = 2 := by simpa using hk
  clear hk
  subst hk2
  go_wp2_with fail
  with_reducible refine (textH _ _).mono ?_
  rintro e w1 ⟨pr, rfl, kr, hb⟩
  replace R0 := qh9 (R0.out.keep hb)
  replace HW := qc9 HW hb
  clear hb
  replace kr := qh9 kr
  go_wp2_with ((with_reducible refine storeB (w1 := w1) (g := w.heap.size) (b := .str (LA s)) (p := pr) (.tmp 2) (.tmp 14) ?_ ?_ ?_ ?_ kr.out R0.out ?_); rfl; rfl; rfl; rfl)
  exact retHs rfl rfl R0.out rfl kr.out (by omega) HW.out
 | false =>
  have hk2 : ¬ k = 2 := by simpa using hk
  clear hk
  go_wp2_with fail
  with_reducible refine (textH _ _).mono ?_
  rintro e w1 ⟨pr, rfl, kr, hb⟩
  replace R0 := qh9 (R0.out.keep hb)
  replace HW := qc9 HW hb
  clear hb
  replace kr := qh9 kr
  go_wp2_with ((with_reducible refine storeB (w1 := w1) (g := w.heap.size) (b := .str (LA ⟨#[]⟩)) (p := pr) (.tmp 2) (.tmp 8) ?_ ?_ ?_ ?_ kr.out R0.out ?_); rfl; rfl; rfl; rfl)
  exact retHs rfl rfl R0.out rfl kr.out (by omega) HW.out
set_option maxHeartbeats 4000000 in
set_option maxRecDepth 100000 in
theorem val22 (x : Ob) (b o c : Nat) (p : Value) (w : World) (hx : Ad w x b o p) (hc : 1 ≤ c) (hl : x.strV.length ≤ 2000) (ht : Tab w) : Calls Tryz.prog 103 #[.slice (some ⟨b, o, none⟩) 1 c] w (RetH w (inO x.strV.length)) := by
 have CT : Hid (∀ W q, Calls Tryz.prog 145 #[vO x q] W (RetY W (.string (BA x.strV)))) := fun W q => textV x q W
 have CI : Hid (∀ W, Tab W → Calls Tryz.prog 137 #[.int .i64 ((BA x.strV).size : Int)] W (RetH W (inO x.strV.length))) := fun W hT => by
  rw [BA_size]
  exact intH _ W (i64_small (by omega)) hT
 clear hl
 generalize inO x.strV.length = res at CI ⊢
 generalize BA x.strV = s at CI CT
 have HX := qh9 hx
 clear hx
 have T := Bx1.new w #[.int .i64 0, .string ⟨#[]⟩, .string ⟨#[]⟩, .string ⟨#[]⟩, .string ⟨#[]⟩, .string ⟨#[]⟩, .slice none 0 0]
 go_enter Tryz.func103, Tryz.ntmps103
 go_upto_region 1 with fail
 generalize w.alloc (.cells #[.int .i64 0, .string ⟨#[]⟩, .string ⟨#[]⟩, .string ⟨#[]⟩, .string ⟨#[]⟩, .string ⟨#[]⟩, .slice none 0 0] 27) = W at T ⊢
 have R0 := qh9 T.b0
 have HW := qh9 T.bel
 have HT := qh9 (ht.below T.bel)
 clear T   ht
 replace HX := qh9 (HX.out.below HW.out)
 go_wp2_with (first | ((with_reducible refine loadA ?_ ?_ HX.out ?_); exact ⟨_, rfl, rfl⟩; rfl) | ((with_reducible refine loadAG ?_ ?_ HX.out ?_); exact ⟨_, rfl, rfl⟩; rfl))
 with_reducible refine (CT.out _ _).mono ?_
 rintro e w1 ⟨rfl, hb⟩
 replace R0 := qh9 (R0.out.keep hb)
 replace HW := qc9 HW hb
 replace HT := qh9 (HT.out.below hb)
 replace HX := qh9 (HX.out.below hb)
 clear hb
 go_wp2_with (first | ((with_reducible refine loadA ?_ ?_ HX.out ?_); exact ⟨_, rfl, rfl⟩; rfl) | ((with_reducible refine loadAG ?_ ?_ HX.out ?_); exact ⟨_, rfl, rfl⟩; rfl))
 with_reducible refine (CI.out _ HT.out).mono ?_
 rintro e w2 ⟨pr, rfl, kr, hb⟩
 replace R0 := qh9 (R0.out.keep hb)
 replace HW := qc9 HW hb
 replace HT := qh9 (HT.out.below hb)
 replace HX := qh9 (HX.out.below hb)
 clear hb
 replace kr := qh9 kr
 go_wp2_with (first | ((with_reducible refine storeB (w1 := w2) (g := w.heap.size) (b := res) (p := pr) (.tmp 2) (.tmp 8) ?_ ?_ ?_ ?_ kr.out R0.out ?_); rfl; rfl; rfl; rfl) | ((with_reducible refine loadA ?_ ?_ HX.out ?_); exact ⟨_, rfl, rfl⟩; rfl) | ((with_reducible refine loadAG ?_ ?_ HX.out ?_); exact ⟨_, rfl, rfl⟩; rfl))
 exact retHs rfl rfl R0.out rfl kr.out (by omega) HW.out
set_option maxHeartbeats 4000000 in
set_option maxRecDepth 100000 in
theorem val1 (x y : Ob) (b o c : Nat) (p q : Value) (w : World) (hx : Ad w x b o p) (hy : Ad w y b (o + 7) q) (hc : 2 ≤ c)  (hbx : x.bd 90) (hby : y.bd 90) (hn : x.nodes ≤ 3000) : Calls Tryz.prog 77 #[.slice (some ⟨b, o, none⟩) 2 c] w (RetH w (trO (decide (x = y)))) := by
 obtain ⟨a0, a1, a2, a3, a4, a5, ea⟩ := cells7 x p
 obtain ⟨b0, b1, b2, b3, b4, b5, eb⟩ := cells7 y q
 have CE : Hid (∀ W, Hd W x p → Hd W y q → Calls Tryz.prog 126 #[.agg #[a0, a1, a2, a3, a4, a5, p], .agg #[b0, b1, b2, b3, b4, b5, q]] W (RetB W (decide (x = y)))) := fun W h1 h2 => by
  rw [← vO_cells ea, ← vO_cells eb]
  exact equalP 90 (by decide) x y p q W (Has W) (In.has W) h1 h2 hbx hby hn
 clear hbx hby hn
 generalize decide (x = y) = v at CE ⊢
 have HX := qh9 hx
 have HY := qh9 hy
 clear hx hy
 have T := Bx1.new w #[.int .i64 0, .string ⟨#[]⟩, .string ⟨#[]⟩, .string ⟨#[]⟩, .string ⟨#[]⟩, .string ⟨#[]⟩, .slice none 0 0]
 go_enter Tryz.func77, Tryz.ntmps77
 go_upto_region 1 with fail
 generalize w.alloc (.cells #[.int .i64 0, .string ⟨#[]⟩, .string ⟨#[]⟩, .string ⟨#[]⟩, .string ⟨#[]⟩, .string ⟨#[]⟩, .slice none 0 0] 27) = W at T ⊢
 have R0 := qh9 T.b0
 have HW := qh9 T.bel
 clear T  
 replace HX := qh9 (HX.out.below HW.out)
 replace HY := qh9 (HY.out.below HW.out)
 have hbx := HX.out.2.1
 have hby := HY.out.2.1
 rw [ea] at hbx
 rw [eb] at hby
 have l0 := hbx 0 _ rfl
 have l1 := hbx 1 _ rfl
 have l2 := hbx 2 _ rfl
 have l3 := hbx 3 _ rfl
 have l4 := hbx 4 _ rfl
 have l5 := hbx 5 _ rfl
 have l6 := hbx 6 _ rfl
 have n0 := hby 0 _ rfl
 have n1 := hby 1 _ rfl
 have n2 := hby 2 _ rfl
 have n3 := hby 3 _ rfl
 have n4 := hby 4 _ rfl
 have n5 := hby 5 _ rfl
 have n6 := hby 6 _ rfl
 rw [Nat.add_zero] at l0 n0
 simp only [Nat.add_assoc, Nat.reduceAdd] at n1 n2 n3 n4 n5 n6
 clear hbx hby
 go_wp2_with fail
 go_still_tail 6, (by kernel_rfl)
 change wpList _ _ _ _ _ W.drew
 have hb : Below W.heap.size W W.drew := (Below.refl _ _).drew
 generalize W.drew = wd at hb ⊢
 replace R0 := qh9 (R0.out.keep hb)
 replace HW := qc9 HW hb
 replace HX := qh9 (HX.out.below hb)
 replace HY := qh9 (HY.out.below hb)
 clear hb l0 n0 l1 n1 l2 n2 l3 n3 l4 n4 l5 n5 l6 n6
 go_wp2_with (first | ((with_reducible refine loadA ?_ ?_ HX.out ?_); exact ⟨_, rfl, rfl⟩; rfl) | ((with_reducible refine loadAG ?_ ?_ HX.out ?_); exact ⟨_, rfl, rfl⟩; rfl) | ((with_reducible refine loadA ?_ ?_ HY.out ?_); exact ⟨_, rfl, rfl⟩; rfl) | ((with_reducible refine loadAG ?_ ?_ HY.out ?_); exact ⟨_, rfl, rfl⟩; rfl))
 with_reducible refine (CE.out _ HX.out.hd HY.out.hd).mono ?_
 rintro e w1 ⟨rfl, hb⟩
 replace R0 := qh9 (R0.out.keep hb)
 replace HW := qc9 HW hb
 replace HX := qh9 (HX.out.below hb)
 replace HY := qh9 (HY.out.below hb)
 clear hb
 go_wp2_with (first | ((with_reducible refine loadA ?_ ?_ HX.out ?_); exact ⟨_, rfl, rfl⟩; rfl) | ((with_reducible refine loadAG ?_ ?_ HX.out ?_); exact ⟨_, rfl, rfl⟩; rfl) | ((with_reducible refine loadA ?_ ?_ HY.out ?_); exact ⟨_, rfl, rfl⟩; rfl) | ((with_reducible refine loadAG ?_ ?_ HY.out ?_); exact ⟨_, rfl, rfl⟩; rfl))
 with_reducible refine (answerP v _).mono ?_
 rintro e w2 ⟨pr, rfl, kr, hb⟩
 replace R0 := qh9 (R0.out.keep hb)
 replace HW := qc9 HW hb
 replace HX := qh9 (HX.out.below hb)
 replace HY := qh9 (HY.out.below hb)
 clear hb
 replace kr := qh9 kr
 go_wp2_with (first | ((with_reducible refine storeB (w1 := w2) (g := w.heap.size) (b := trO v) (p := pr) (.tmp 2) (.tmp 10) ?_ ?_ ?_ ?_ kr.out R0.out ?_); rfl; rfl; rfl; rfl) | ((with_reducible refine loadA ?_ ?_ HX.out ?_); exact ⟨_, rfl, rfl⟩; rfl) | ((with_reducible refine loadAG ?_ ?_ HX.out ?_); exact ⟨_, rfl, rfl⟩; rfl) | ((with_reducible refine loadA ?_ ?_ HY.out ?_); exact ⟨_, rfl, rfl⟩; rfl) | ((with_reducible refine loadAG ?_ ?_ HY.out ?_); exact ⟨_, rfl, rfl⟩; rfl))
 exact retHs rfl rfl R0.out rfl kr.out (by omega) HW.out
set_option maxHeartbeats 4000000 in
set_option maxRecDepth 100000 in
theorem val2 (x y : Ob) (b o c : Nat) (p q : Value) (w : World) (hx : Ad w x b o p) (hy : Ad w y b (o + 7) q) (hc : 2 ≤ c) : Calls Tryz.prog 78 #[.slice (some ⟨b, o, none⟩) 2 c] w (RetH w (.cons x y)) := by
 obtain ⟨a0, a1, a2, a3, a4, a5, ea⟩ := cells7 x p
 obtain ⟨b0, b1, b2, b3, b4, b5, eb⟩ := cells7 y q
 have CE : Hid (∀ W, Hd W x p → Hd W y q → Calls Tryz.prog 127 #[.agg #[a0, a1, a2, a3, a4, a5, p], .agg #[b0, b1, b2, b3, b4, b5, q]] W (RetH W (.cons x y))) := fun W h1 h2 => by
  rw [← vO_cells ea, ← vO_cells eb]
  exact consH x y p q W h1 h2
 generalize Ob.cons x y = res at CE ⊢
 have HX := qh9 hx
 have HY := qh9 hy
 clear hx hy
 have T := Bx1.new w #[.int .i64 0, .string ⟨#[]⟩, .string ⟨#[]⟩, .string ⟨#[]⟩, .string ⟨#[]⟩, .string ⟨#[]⟩, .slice none 0 0]
 go_enter Tryz.func78, Tryz.ntmps78
 go_upto_region 1 with fail
 generalize w.alloc (.cells #[.int .i64 0, .string ⟨#[]⟩, .string ⟨#[]⟩, .string ⟨#[]⟩, .string ⟨#[]⟩, .string ⟨#[]⟩, .slice none 0 0] 27) = W at T ⊢
 have R0 := qh9 T.b0
 have HW := qh9 T.bel
 clear T  
 replace HX := qh9 (HX.out.below HW.out)
 replace HY := qh9 (HY.out.below HW.out)
 have hbx := HX.out.2.1
 have hby := HY.out.2.1
 rw [ea] at hbx
 rw [eb] at hby
 have l0 := hbx 0 _ rfl
 have l1 := hbx 1 _ rfl
 have l2 := hbx 2 _ rfl
 have l3 := hbx 3 _ rfl
 have l4 := hbx 4 _ rfl
 have l5 := hbx 5 _ rfl
 have l6 := hbx 6 _ rfl
 have n0 := hby 0 _ rfl
 have n1 := hby 1 _ rfl
 have n2 := hby 2 _ rfl
 have n3 := hby 3 _ rfl
 have n4 := hby 4 _ rfl
 have n5 := hby 5 _ rfl
 have n6 := hby 6 _ rfl
 rw [Nat.add_zero] at l0 n0
 simp only [Nat.add_assoc, Nat.reduceAdd] at n1 n2 n3 n4 n5 n6
 clear hbx hby
 go_wp2_with fail
 go_still_tail 6, (by kernel_rfl)
 change wpList _ _ _ _ _ W.drew
 have hb : Below W.heap.size W W.drew := (Below.refl _ _).drew
 generalize W.drew = wd at hb ⊢
 replace R0 := qh9 (R0.out.keep hb)
 replace HW := qc9 HW hb
 replace HX := qh9 (HX.out.below hb)
 replace HY := qh9 (HY.out.below hb)
 clear hb l0 n0 l1 n1 l2 n2 l3 n3 l4 n4 l5 n5 l6 n6
 go_wp2_with (first | ((with_reducible refine loadA ?_ ?_ HX.out ?_); exact ⟨_, rfl, rfl⟩; rfl) | ((with_reducible refine loadAG ?_ ?_ HX.out ?_); exact ⟨_, rfl, rfl⟩; rfl) | ((with_reducible refine loadA ?_ ?_ HY.out ?_); exact ⟨_, rfl, rfl⟩; rfl) | ((with_reducible refine loadAG ?_ ?_ HY.out ?_); exact ⟨_, rfl, rfl⟩; rfl))
 with_reducible refine (CE.out _ HX.out.hd HY.out.hd).mono ?_
 rintro e w1 ⟨pr, rfl, kr, hb⟩
 replace R0 := qh9 (R0.out.keep hb)
 replace HW := qc9 HW hb
 replace HX := qh9 (HX.out.below hb)
 replace HY := qh9 (HY.out.below hb)
 clear hb
 replace kr := qh9 kr
 go_wp2_with (first | ((with_reducible refine storeB (w1 := w1) (g := w.heap.size) (b := res) (p := pr) (.tmp 2) (.tmp 9) ?_ ?_ ?_ ?_ kr.out R0.out ?_); rfl; rfl; rfl; rfl) | ((with_reducible refine loadA ?_ ?_ HX.out ?_); exact ⟨_, rfl, rfl⟩; rfl) | ((with_reducible refine loadAG ?_ ?_ HX.out ?_); exact ⟨_, rfl, rfl⟩; rfl) | ((with_reducible refine loadA ?_ ?_ HY.out ?_); exact ⟨_, rfl, rfl⟩; rfl) | ((with_reducible refine loadAG ?_ ?_ HY.out ?_); exact ⟨_, rfl, rfl⟩; rfl))
 exact retHs rfl rfl R0.out rfl kr.out (by omega) HW.out
set_option maxHeartbeats 4000000 in
set_option maxRecDepth 100000 in
theorem val10 (x y : Ob) (b o c : Nat) (p q : Value) (w : World) (hx : Ad w x b o p) (hy : Ad w y b (o + 7) q) (hc : 2 ≤ c) (d : Nat) (hd : d ≤ 1000) (h1 : Bd d x.fix) (h2 : Bd d y.fix) (ht : Tab w) : Calls Tryz.prog 87 #[.slice (some ⟨b, o, none⟩) 2 c] w (RetH w (.num (x.fix + y.fix))) := by
 obtain ⟨a0, a1, a2, a3, a4, a5, ea⟩ := cells7 x p
 obtain ⟨b0, b1, b2, b3, b4, b5, eb⟩ := cells7 y q
 have CE : Hid (∀ W, Hd W x p → Hd W y q → Tab W → Calls Tryz.prog 131 #[.agg #[a0, a1, a2, a3, a4, a5, p], .agg #[b0, b1, b2, b3, b4, b5, q]] W (RetH W (.num (x.fix + y.fix)))) := fun W g1 g2 hT => by
  rw [← vO_cells ea, ← vO_cells eb]
  exact (sumP d hd x y p q W (Has W) g1 g2 h1 h2 hT).mono fun _ _ h => h.h
 clear h1 h2
 generalize (.num (x.fix + y.fix) : Ob) = res at CE ⊢
 have HX := qh9 hx
 have HY := qh9 hy
 clear hx hy
 have T := Bx1.new w #[.int .i64 0, .string ⟨#[]⟩, .string ⟨#[]⟩, .string ⟨#[]⟩, .string ⟨#[]⟩, .string ⟨#[]⟩, .slice none 0 0]
 go_enter Tryz.func87, Tryz.ntmps87
 go_upto_region 1 with fail
 generalize w.alloc (.cells #[.int .i64 0, .string ⟨#[]⟩, .string ⟨#[]⟩, .string ⟨#[]⟩, .string ⟨#[]⟩, .string ⟨#[]⟩, .slice none 0 0] 27) = W at T ⊢
 have R0 := qh9 T.b0
 have HW := qh9 T.bel
 have HT := qh9 (ht.below T.bel)
 clear T   ht
 replace HX := qh9 (HX.out.below HW.out)
 replace HY := qh9 (HY.out.below HW.out)
 have hbx := HX.out.2.1
 have hby := HY.out.2.1
 rw [ea] at hbx
 rw [eb] at hby
 have l0 := hbx 0 _ rfl
 have l1 := hbx 1 _ rfl
 have l2 := hbx 2 _ rfl
 have l3 := hbx 3 _ rfl
 have l4 := hbx 4 _ rfl
 have l5 := hbx 5 _ rfl
 have l6 := hbx 6 _ rfl
 have n0 := hby 0 _ rfl
 have n1 := hby 1 _ rfl
 have n2 := hby 2 _ rfl
 have n3 := hby 3 _ rfl
 have n4 := hby 4 _ rfl
 have n5 := hby 5 _ rfl
 have n6 := hby 6 _ rfl
 rw [Nat.add_zero] at l0 n0
 simp only [Nat.add_assoc, Nat.reduceAdd] at n1 n2 n3 n4 n5 n6
 clear hbx hby
 go_wp2_with fail
 go_still_tail 6, (by kernel_rfl)
 change wpList _ _ _ _ _ W.drew
 have hb : Below W.heap.size W W.drew := (Below.refl _ _).drew
 generalize W.drew = wd at hb ⊢
 replace R0 := qh9 (R0.out.keep hb)
 replace HW := qc9 HW hb
 replace HT := qh9 (HT.out.below hb)
 replace HX := qh9 (HX.out.below hb)
 replace HY := qh9 (HY.out.below hb)
 clear hb l0 n0 l1 n1 l2 n2 l3 n3 l4 n4 l5 n5 l6 n6
 go_wp2_with (first | ((with_reducible refine loadA ?_ ?_ HX.out ?_); exact ⟨_, rfl, rfl⟩; rfl) | ((with_reducible refine loadAG ?_ ?_ HX.out ?_); exact ⟨_, rfl, rfl⟩; rfl) | ((with_reducible refine loadA ?_ ?_ HY.out ?_); exact ⟨_, rfl, rfl⟩; rfl) | ((with_reducible refine loadAG ?_ ?_ HY.out ?_); exact ⟨_, rfl, rfl⟩; rfl))
 with_reducible refine (CE.out _ HX.out.hd HY.out.hd HT.out).mono ?_
 rintro e w1 ⟨pr, rfl, kr, hb⟩
 replace R0 := qh9 (R0.out.keep hb)
 replace HW := qc9 HW hb
 replace HT := qh9 (HT.out.below hb)
 replace HX := qh9 (HX.out.below hb)
 replace HY := qh9 (HY.out.below hb)
 clear hb
 replace kr := qh9 kr
 go_wp2_with (first | ((with_reducible refine storeB (w1 := w1) (g := w.heap.size) (b := res) (p := pr) (.tmp 2) (.tmp 9) ?_ ?_ ?_ ?_ kr.out R0.out ?_); rfl; rfl; rfl; rfl) | ((with_reducible refine loadA ?_ ?_ HX.out ?_); exact ⟨_, rfl, rfl⟩; rfl) | ((with_reducible refine loadAG ?_ ?_ HX.out ?_); exact ⟨_, rfl, rfl⟩; rfl) | ((with_reducible refine loadA ?_ ?_ HY.out ?_); exact ⟨_, rfl, rfl⟩; rfl) | ((with_reducible refine loadAG ?_ ?_ HY.out ?_); exact ⟨_, rfl, rfl⟩; rfl))
 exact retHs rfl rfl R0.out rfl kr.out (by omega) HW.out
set_option maxHeartbeats 4000000 in
set_option maxRecDepth 100000 in
theorem val11 (x y : Ob) (b o c : Nat) (p q : Value) (w : World) (hx : Ad w x b o p) (hy : Ad w y b (o + 7) q) (hc : 2 ≤ c) (d : Nat) (hd : d ≤ 1000) (h1 : Bd d x.fix) (h2 : Bd d y.fix) (ht : Tab w) : Calls Tryz.prog 89 #[.slice (some ⟨b, o, none⟩) 2 c] w (RetH w (.num (x.fix * y.fix))) := by
 obtain ⟨a0, a1, a2, a3, a4, a5, ea⟩ := cells7 x p
 obtain ⟨b0, b1, b2, b3, b4, b5, eb⟩ := cells7 y q
 have CE : Hid (∀ W, Hd W x p → Hd W y q → Tab W → Calls Tryz.prog 133 #[.agg #[a0, a1, a2, a3, a4, a5, p], .agg #[b0, b1, b2, b3, b4, b5, q]] W (RetH W (.num (x.fix * y.fix)))) := fun W g1 g2 hT => by
  rw [← vO_cells ea, ← vO_cells eb]
  exact (productP d hd x y p q W (Has W) g1 g2 h1 h2 hT).mono fun _ _ h => h.h
 clear h1 h2
 generalize (.num (x.fix * y.fix) : Ob) = res at CE ⊢
 have HX := qh9 hx
 have HY := qh9 hy
 clear hx hy
 have T := Bx1.new w #[.int .i64 0, .string ⟨#[]⟩, .string ⟨#[]⟩, .string ⟨#[]⟩, .string ⟨#[]⟩, .string ⟨#[]⟩, .slice none 0 0]
 go_enter Tryz.func89, Tryz.ntmps89
 go_upto_region 1 with fail
 generalize w.alloc (.cells #[.int .i64 0, .string ⟨#[]⟩, .string ⟨#[]⟩, .string ⟨#[]⟩, .string ⟨#[]⟩, .string ⟨#[]⟩, .slice none 0 0] 27) = W at T ⊢
 have R0 := qh9 T.b0
 have HW := qh9 T.bel
 have HT := qh9 (ht.below T.bel)
 clear T   ht
 replace HX := qh9 (HX.out.below HW.out)
 replace HY := qh9 (HY.out.below HW.out)
 have hbx := HX.out.2.1
 have hby := HY.out.2.1
 rw [ea] at hbx
 rw [eb] at hby
 have l0 := hbx 0 _ rfl
 have l1 := hbx 1 _ rfl
 have l2 := hbx 2 _ rfl
 have l3 := hbx 3 _ rfl
 have l4 := hbx 4 _ rfl
 have l5 := hbx 5 _ rfl
 have l6 := hbx 6 _ rfl
 have n0 := hby 0 _ rfl
 have n1 := hby 1 _ rfl
 have n2 := hby 2 _ rfl
 have n3 := hby 3 _ rfl
 have n4 := hby 4 _ rfl
 have n5 := hby 5 _ rfl
 have n6 := hby 6 _ rfl
 rw [Nat.add_zero] at l0 n0
 simp only [Nat.add_assoc, Nat.reduceAdd] at n1 n2 n3 n4 n5 n6
 clear hbx hby
 go_wp2_with fail
 go_still_tail 6, (by kernel_rfl)
 change wpList _ _ _ _ _ W.drew
 have hb : Below W.heap.size W W.drew := (Below.refl _ _).drew
 generalize W.drew = wd at hb ⊢
 replace R0 := qh9 (R0.out.keep hb)
 replace HW := qc9 HW hb
 replace HT := qh9 (HT.out.below hb)
 replace HX := qh9 (HX.out.below hb)
 replace HY := qh9 (HY.out.below hb)
 clear hb l0 n0 l1 n1 l2 n2 l3 n3 l4 n4 l5 n5 l6 n6
 go_wp2_with (first | ((with_reducible refine loadA ?_ ?_ HX.out ?_); exact ⟨_, rfl, rfl⟩; rfl) | ((with_reducible refine loadAG ?_ ?_ HX.out ?_); exact ⟨_, rfl, rfl⟩; rfl) | ((with_reducible refine loadA ?_ ?_ HY.out ?_); exact ⟨_, rfl, rfl⟩; rfl) | ((with_reducible refine loadAG ?_ ?_ HY.out ?_); exact ⟨_, rfl, rfl⟩; rfl))
 with_reducible refine (CE.out _ HX.out.hd HY.out.hd HT.out).mono ?_
 rintro e w1 ⟨pr, rfl, kr, hb⟩
 replace R0 := qh9 (R0.out.keep hb)
 replace HW := qc9 HW hb
 replace HT := qh9 (HT.out.below hb)
 replace HX := qh9 (HX.out.below hb)
 replace HY := qh9 (HY.out.below hb)
 clear hb
 replace kr := qh9 kr
 go_wp2_with (first | ((with_reducible refine storeB (w1 := w1) (g := w.heap.size) (b := res) (p := pr) (.tmp 2) (.tmp 9) ?_ ?_ ?_ ?_ kr.out R0.out ?_); rfl; rfl; rfl; rfl) | ((with_reducible refine loadA ?_ ?_ HX.out ?_); exact ⟨_, rfl, rfl⟩; rfl) | ((with_reducible refine loadAG ?_ ?_ HX.out ?_); exact ⟨_, rfl, rfl⟩; rfl) | ((with_reducible refine loadA ?_ ?_ HY.out ?_); exact ⟨_, rfl, rfl⟩; rfl) | ((with_reducible refine loadAG ?_ ?_ HY.out ?_); exact ⟨_, rfl, rfl⟩; rfl))
 exact retHs rfl rfl R0.out rfl kr.out (by omega) HW.out
set_option maxHeartbeats 4000000 in
set_option maxRecDepth 100000 in
theorem val14 (x y : Ob) (b o c : Nat) (p q : Value) (w : World) (hx : Ad w x b o p) (hy : Ad w y b (o + 7) q) (hc : 2 ≤ c) (d : Nat) (hd : d ≤ 1000) (h1 : Bd d x.fix) (h2 : Bd d y.fix) (ht : Tab w) : Calls Tryz.prog 93 #[.slice (some ⟨b, o, none⟩) 2 c] w (RetH w (trO (decide (ordQ x.fix y.fix < 0)))) := by
 obtain ⟨a0, a1, a2, a3, a4, a5, ea⟩ := cells7 x p
 obtain ⟨b0, b1, b2, b3, b4, b5, eb⟩ := cells7 y q
 have CE : Hid (∀ W, Hd W x p → Hd W y q → Tab W → Calls Tryz.prog 138 #[.agg #[a0, a1, a2, a3, a4, a5, p], .agg #[b0, b1, b2, b3, b4, b5, q]] W (RetB W (decide (ordQ x.fix y.fix < 0)))) := fun W g1 g2 hT => by
  rw [← vO_cells ea, ← vO_cells eb]
  exact lessP d hd x y p q W (Has W) g1 g2 h1 h2 hT
 clear h1 h2
 generalize decide (ordQ x.fix y.fix < 0) = v at CE ⊢
 have HX := qh9 hx
 have HY := qh9 hy
 clear hx hy
 have T := Bx1.new w #[.int .i64 0, .string ⟨#[]⟩, .string ⟨#[]⟩, .string ⟨#[]⟩, .string ⟨#[]⟩, .string ⟨#[]⟩, .slice none 0 0]
 go_enter Tryz.func93, Tryz.ntmps93
 go_upto_region 1 with fail
 generalize w.alloc (.cells #[.int .i64 0, .string ⟨#[]⟩, .string ⟨#[]⟩, .string ⟨#[]⟩, .string ⟨#[]⟩, .string ⟨#[]⟩, .slice none 0 0] 27) = W at T ⊢
 have R0 := qh9 T.b0
 have HW := qh9 T.bel
 have HT := qh9 (ht.below T.bel)
 clear T   ht
 replace HX := qh9 (HX.out.below HW.out)
 replace HY := qh9 (HY.out.below HW.out)
 have hbx := HX.out.2.1
 have hby := HY.out.2.1
 rw [ea] at hbx
 rw [eb] at hby
 have l0 := hbx 0 _ rfl
 have l1 := hbx 1 _ rfl
 have l2 := hbx 2 _ rfl
 have l3 := hbx 3 _ rfl
 have l4 := hbx 4 _ rfl
 have l5 := hbx 5 _ rfl
 have l6 := hbx 6 _ rfl
 have n0 := hby 0 _ rfl
 have n1 := hby 1 _ rfl
 have n2 := hby 2 _ rfl
 have n3 := hby 3 _ rfl
 have n4 := hby 4 _ rfl
 have n5 := hby 5 _ rfl
 have n6 := hby 6 _ rfl
 rw [Nat.add_zero] at l0 n0
 simp only [Nat.add_assoc, Nat.reduceAdd] at n1 n2 n3 n4 n5 n6
 clear hbx hby
 go_wp2_with fail
 go_still_tail 6, (by kernel_rfl)
 change wpList _ _ _ _ _ W.drew
 have hb : Below W.heap.size W W.drew := (Below.refl _ _).drew
 generalize W.drew = wd at hb ⊢
 replace R0 := qh9 (R0.out.keep hb)
 replace HW := qc9 HW hb
 replace HT := qh9 (HT.out.below hb)
 replace HX := qh9 (HX.out.below hb)
 replace HY := qh9 (HY.out.below hb)
 clear hb l0 n0 l1 n1 l2 n2 l3 n3 l4 n4 l5 n5 l6 n6
 go_wp2_with (first | ((with_reducible refine loadA ?_ ?_ HX.out ?_); exact ⟨_, rfl, rfl⟩; rfl) | ((with_reducible refine loadAG ?_ ?_ HX.out ?_); exact ⟨_, rfl, rfl⟩; rfl) | ((with_reducible refine loadA ?_ ?_ HY.out ?_); exact ⟨_, rfl, rfl⟩; rfl) | ((with_reducible refine loadAG ?_ ?_ HY.out ?_); exact ⟨_, rfl, rfl⟩; rfl))
 with_reducible refine (CE.out _ HX.out.hd HY.out.hd HT.out).mono ?_
 rintro e w1 ⟨rfl, hb⟩
 replace R0 := qh9 (R0.out.keep hb)
 replace HW := qc9 HW hb
 replace HT := qh9 (HT.out.below hb)
 replace HX := qh9 (HX.out.below hb)
 replace HY := qh9 (HY.out.below hb)
 clear hb
 go_wp2_with (first | ((with_reducible refine loadA ?_ ?_ HX.out ?_); exact ⟨_, rfl, rfl⟩; rfl) | ((with_reducible refine loadAG ?_ ?_ HX.out ?_); exact ⟨_, rfl, rfl⟩; rfl) | ((with_reducible refine loadA ?_ ?_ HY.out ?_); exact ⟨_, rfl, rfl⟩; rfl) | ((with_reducible refine loadAG ?_ ?_ HY.out ?_); exact ⟨_, rfl, rfl⟩; rfl))
 with_reducible refine (answerP v _).mono ?_
 rintro e w2 ⟨pr, rfl, kr, hb⟩
 replace R0 := qh9 (R0.out.keep hb)
 replace HW := qc9 HW hb
 replace HT := qh9 (HT.out.below hb)
 replace HX := qh9 (HX.out.below hb)
 replace HY := qh9 (HY.out.below hb)
 clear hb
 replace kr := qh9 kr
 go_wp2_with (first | ((with_reducible refine storeB (w1 := w2) (g := w.heap.size) (b := trO v) (p := pr) (.tmp 2) (.tmp 10) ?_ ?_ ?_ ?_ kr.out R0.out ?_); rfl; rfl; rfl; rfl) | ((with_reducible refine loadA ?_ ?_ HX.out ?_); exact ⟨_, rfl, rfl⟩; rfl) | ((with_reducible refine loadAG ?_ ?_ HX.out ?_); exact ⟨_, rfl, rfl⟩; rfl) | ((with_reducible refine loadA ?_ ?_ HY.out ?_); exact ⟨_, rfl, rfl⟩; rfl) | ((with_reducible refine loadAG ?_ ?_ HY.out ?_); exact ⟨_, rfl, rfl⟩; rfl))
 exact retHs rfl rfl R0.out rfl kr.out (by omega) HW.out
theorem and_drop {l : List Ob} {i : Nat} (hi : i < l.length) (f : Ob → Bool) : (l.drop i).all f = (f l[i] && (l.drop (i + 1)).all f) := by
 rw [List.drop_eq_getElem_cons hi, List.all_cons]
theorem Pt1.bx {w X : World} {o : Ob} {p : Value} (h : Pt1 w X o p) : Bx X w.heap.size #[.int .i64 o.kd, .string o.f1, .string o.f2, .string o.f3, .string o.f4, .string o.f5, p] := BxK h.b0
set_option maxHeartbeats 4000000 in
set_option maxRecDepth 100000 in
theorem areAllP (k : Int) (l : List Ob) (v : Value) (w : World) (hv : Ar w l v) (hl : l.length ≤ 1000) : Calls Tryz.prog 132 #[.int .i64 k, v] w (RetB w (l.all fun o => o.kd == k)) := by
 obtain ⟨A, c, rfl, hlc, hA⟩ := hv
 have HA := qh9 hA
 clear hA
 obtain ⟨L, hL⟩ : ∃ L, l.length = L := ⟨_, rfl⟩
 rw [hL] at hl hlc ⊢
 have HL := qh9 hL
 clear hL
 obtain ⟨R, hR⟩ : ∃ R, (l.all fun o => o.kd == k) = R := ⟨_, rfl⟩
 rw [hR]
 have H0 : Hid (((l.drop 0).all fun o => o.kd == k) = R ∧ Below w.heap.size w w) := ⟨by rw [List.drop_zero]; exact hR, Below.refl _ _⟩
 clear hR
 go_enter Tryz.func132, Tryz.ntmps132
 go_wp2_with fail
 go_loopw [9] (fun v wr => ∃ (i : Nat), i ≤ L ∧ v = .int .i64 i ∧ Hid (((l.drop i).all fun o => o.kd == k) = R ∧ Below w.heap.size w wr)) (fun v _ => L - (intOf v).toNat)
 case atStart => exact ⟨0, Nat.zero_le _, rfl, H0⟩
 case round =>
  obtain ⟨i, hi, rfl, hE⟩ := hrel
  obtain ⟨wo, rfl⟩ : ∃ wo : World, wo = wr := ⟨_, rfl⟩
  obtain ⟨hf, hb⟩ := hE.out
  clear hE H0
  have HW := qh9 hb
  have HF := qh9 hf
  clear hb hf
  by_cases hiL : i < L
  · have hil : i < l.length := by rw [HL.out]; exact hiL
    obtain ⟨b, o, rfl, hcell⟩ := HA.out (by omega)
    obtain ⟨p, hp⟩ := hcell i hil
    have step := and_drop hil (fun o => o.kd == k)
    rw [HF.out] at step
    have HX : Hid (Ad wo l[i] b (o + i * 7) p) := qh9 ((At.below hp (In.has w) HW.out).more fun q hq => Nat.lt_of_lt_of_le hq HW.out.size)
    clear hp hcell HF
    generalize hx : l[i] = x at step HX
    clear hx
    have T := qh9 (Bx1.new wo #[.int .i64 0, .string ⟨#[]⟩, .string ⟨#[]⟩, .string ⟨#[]⟩, .string ⟨#[]⟩, .string ⟨#[]⟩, .slice none 0 0])
    go_upto_region 4 with (first
     | ((with_reducible refine loadA ?_ ?_ HX.out ?_); exact ⟨_, rfl, rfl⟩; rfl)
     | ((with_reducible refine storeB (w1 := wo) (g := wo.heap.size) (b := x) (p := p) (.tmp 6) (.tmp 12) ?_ ?_ ?_ ?_ HX.out.hd T.out.b0 ?_); rfl; rfl; rfl; rfl; have Q := Pt1.new (w := wo) (o := x) (p := p) (z := #[.int .i64 0, .string ⟨#[]⟩, .string ⟨#[]⟩, .string ⟨#[]⟩, .string ⟨#[]⟩, .string ⟨#[]⟩, .slice none 0 0]); generalize World.setRow (wo.alloc (.cells #[.int .i64 0, .string ⟨#[]⟩, .string ⟨#[]⟩, .string ⟨#[]⟩, .string ⟨#[]⟩, .string ⟨#[]⟩, .slice none 0 0] 27)) wo.heap.size (cellsO x p).toArray = X at Q ⊢; replace HW := qh9 (chain2 HW.out Q.bel (Nat.le_refl _)); have HQ := qh9 Q.bx; clear Q T HX))
    obtain ⟨m0, m1, m2, m3, m4, m5, m6⟩ := Bx.c HQ.out
    clear HQ m1 m2 m3 m4 m5 m6
    generalize x.kd = xk at m0 step
    cases hk : (xk == k) with
    | true =>
     rw [hk, Bool.true_and] at step
     have hk2 : xk = k := by simpa using hk
     have step' := qh9 step
     clear step hk
     subst hk2
     have hk3 : (xk != xk) = false := by simp
     go_wp2_with fail
     go_roundw
     case rel => exact ⟨i + 1, by omega, by go_num, ⟨step'.out.symm, HW.out⟩⟩
     case measure => simp [intOf]; omega
    | false =>
     rw [hk, Bool.false_and] at step
     subst step
     have hk2 : ¬ xk = k := by simpa using hk
     have hk3 : (xk != k) = true := by simpa using hk2
     clear hk
     go_wp2
     go_ret
     exact ⟨rfl, HW.out⟩
  · have hr : R = true := by
     rw [← HF.out, List.drop_eq_nil_of_le (by rw [HL.out]; omega)]
     rfl
    clear HF
    subst hr
    go_wp2
    go_ret
    exact ⟨rfl, HW.out⟩
theorem ar1 {w : World} {x : Ob} {b o c : Nat} {p : Value} (hx : Ad w x b o p) (hc : 1 ≤ c) : Ar w [x] (.slice (some ⟨b, o, none⟩) 1 c) :=
 ⟨_, c, rfl, hc, fun _ => ⟨b, o, rfl, fun i hi => by
  match i, hi with
  | 0, _ => exact ⟨p, by rw [Nat.zero_mul, Nat.add_zero]; exact hx⟩
  | k + 1, h => exact absurd h (by simp)⟩⟩
theorem ar2 {w : World} {x y : Ob} {b o c : Nat} {p q : Value} (hx : Ad w x b o p) (hy : Ad w y b (o + 7) q) (hc : 2 ≤ c) : Ar w [x, y] (.slice (some ⟨b, o, none⟩) 2 c) :=
 ⟨_, c, rfl, hc, fun _ => ⟨b, o, rfl, fun i hi => by
  match i, hi with
  | 0, _ => exact ⟨p, by rw [Nat.zero_mul, Nat.add_zero]; exact hx⟩
  | 1, _ => exact ⟨q, by rw [Nat.one_mul]; exact hy⟩
  | k + 2, h => exact absurd h (by simp)⟩⟩
set_option maxHeartbeats 4000000 in
set_option maxRecDepth 100000 in
theorem areNumbersP (l : List Ob) (v : Value) (w : World) (hv : Ar w l v) (hl : l.length ≤ 1000) : Calls Tryz.prog 88 #[v] w (RetB w (l.all Ob.isNumB)) := by
 have CA := qh9 (areAllP 1 l v w hv hl)
 have e : (l.all fun o => o.kd == 1) = l.all Ob.isNumB := List.all_congr rfl fun x => kd_num x
 rw [e] at CA
 clear hv e
 generalize l.all Ob.isNumB = r at CA ⊢
 go_enter Tryz.func88, Tryz.ntmps88
 go_wp2_with fail
 refine CA.out.mono ?_
 rintro e w1 ⟨rfl, hb⟩
 go_wp2
 go_ret
 exact ⟨rfl, hb⟩
set_option maxHeartbeats 4000000 in
set_option maxRecDepth 100000 in
theorem isSymbolP (l : List Ob) (v : Value) (w : World) (hv : Ar w l v) (hl : l.length ≤ 1000) : Calls Tryz.prog 98 #[v] w (RetB w (l.all Ob.isSymB)) := by
 have CA := qh9 (areAllP 2 l v w hv hl)
 have e : (l.all fun o => o.kd == 2) = l.all Ob.isSymB := List.all_congr rfl fun x => kd_sym x
 rw [e] at CA
 clear hv e
 generalize l.all Ob.isSymB = r at CA ⊢
 go_enter Tryz.func98, Tryz.ntmps98
 go_wp2_with fail
 refine CA.out.mono ?_
 rintro e w1 ⟨rfl, hb⟩
 go_wp2
 go_ret
 exact ⟨rfl, hb⟩
set_option maxHeartbeats 4000000 in
set_option maxRecDepth 100000 in
theorem areStringsP (l : List Ob) (v : Value) (w : World) (hv : Ar w l v) (hl : l.length ≤ 1000) : Calls Tryz.prog 101 #[v] w (RetB w (l.all Ob.isStrB)) := by
 have CA := qh9 (areAllP 3 l v w hv hl)
 have e : (l.all fun o => o.kd == 3) = l.all Ob.isStrB := List.all_congr rfl fun x => kd_str x
 rw [e] at CA
 clear hv e
 generalize l.all Ob.isStrB = r at CA ⊢
 go_enter Tryz.func101, Tryz.ntmps101
 go_wp2_with fail
 refine CA.out.mono ?_
 rintro e w1 ⟨rfl, hb⟩
 go_wp2
 go_ret
 exact ⟨rfl, hb⟩
set_option maxHeartbeats 4000000 in
set_option maxRecDepth 100000 in
theorem anythingP (v : Value) (w : World) : Calls Tryz.prog 76 #[v] w (RetB w true) := by
 go_enter Tryz.func76, Tryz.ntmps76
 go_wp2
 go_ret
 exact ⟨rfl, Below.refl _ _⟩
set_option maxHeartbeats 4000000 in
set_option maxRecDepth 100000 in
theorem isListP (x : Ob) (b o c : Nat) (p : Value) (w : World) (hx : Ad w x b o p) (hc : 1 ≤ c) : Calls Tryz.prog 80 #[.slice (some ⟨b, o, none⟩) 1 c] w (RetB w (x.isCons || decide (x = .nil))) := by
 have CN : Hid (∀ W, Calls Tryz.prog 124 #[.agg #[.int .i64 x.kd, .string x.f1, .string x.f2, .string x.f3, .string x.f4, .string x.f5, p]] W (RetB W (decide (x = .nil)))) := fun W => by
  rw [← vOK]; exact isNilP x p W
 rw [← kd_cons]
 generalize decide (x = .nil) = v at CN ⊢
 obtain ⟨m0, m1, m2, m3, m4, m5, m6⟩ := hx.k
 clear hx
 generalize x.kd = k at *
 generalize x.f1 = s1 at *
 generalize x.f2 = s2 at *
 generalize x.f3 = s3 at *
 generalize x.f4 = s4 at *
 generalize x.f5 = s5 at *
 by_cases hk2 : k = 4
 · subst hk2
   go_enter Tryz.func80, Tryz.ntmps80
   go_wp2
   go_ret
   exact ⟨rfl, Below.refl _ _⟩
 · go_enter Tryz.func80, Tryz.ntmps80
   go_wp2_with fail
   refine (CN.out _).mono ?_
   rintro e w1 ⟨rfl, hb⟩
   go_wp2
   go_ret
   exact ⟨rfl, hb⟩
def RetIB (w : World) (n : Int) (r : Bool) (e : Ending) (w' : World) : Prop := e = .returned (.tuple #[.int .i64 n, .bool r]) ∧ Below w.heap.size w w'
def IntO (o : Ob) : Prop := ∀ q, o = .num q → I64 q.num
set_option maxHeartbeats 4000000 in
set_option maxRecDepth 100000 in
theorem belowN0 (n : Nat) (x : Ob) (p : Value) (w : World) (hx : Hd w x p) (hi : x.isInt = false) : Calls Tryz.prog 146 #[.int .i64 n, vO x p] w (RetIB w 0 false) := by
 have CI : Hid (∀ W q, Calls Tryz.prog 130 #[vO x q] W (RetB W false)) := fun W q => by rw [← hi]; exact isIntegerP x q W
 clear hi
 obtain ⟨a0, a1, a2, a3, a4, a5, ea⟩ := cells7 (x) p
 have T := Bx1.new w #[a0, a1, a2, a3, a4, a5, p]
 rw [vO_cells ea]
 go_enter Tryz.func146, Tryz.ntmps146
 go_wp2_with fail
 generalize w.alloc (.cells #[a0, a1, a2, a3, a4, a5, p] 27) = W at T ⊢
 have B0 : Hid (Bx W (w.heap.size) (cellsO (x) p).toArray) := by rw [ea]; exact T.b0
 have K0 := qh9 (hx.below T.bel)
 have HW := qh9 T.bel
 try rw [← vO_cells ea]
 clear T ea hx
 with_reducible refine (CI.out _ _).mono ?_
 rintro e w1 ⟨rfl, hb⟩
 replace B0 := qh9 (B0.out.keep hb)
 replace K0 := qh9 (K0.out.below hb)
 replace HW := qc9 HW hb
 clear hb
 go_wp2_with (first | ((with_reducible refine loadB (.tmp 3) ?_ ?_ ?_ B0.out ?_); rfl; rfl; rfl) | ((with_reducible refine loadG (.tmp 3) ?_ ?_ ?_ B0.out ?_); rfl; rfl; rfl))
 go_ret2
 exact ⟨rfl, HW.out⟩
set_option maxHeartbeats 4000000 in
set_option maxRecDepth 100000 in
theorem belowN1 (n : Nat) (hn : n ≤ 1000000) (x : Rat) (w : World) (hx : Hd w (.num x) (.slice none 0 0)) (hd : x.den = 1) (h64 : I64 x.num) : Calls Tryz.prog 146 #[.int .i64 n, vO (.num x) (.slice none 0 0)] w (RetIB w (if 0 ≤ x.num ∧ x.num < n then x.num else 0) (decide (0 ≤ x.num ∧ x.num < n))) := by
 have CI : Hid (∀ W q, Calls Tryz.prog 130 #[vO (.num x) q] W (RetB W true)) := fun W q => by
  have h := isIntegerP (.num x) q W
  have e : (Ob.num x).isInt = true := by show decide (x.den = 1) = true; exact decide_eq_true hd
  rwa [e] at h
 have CA : Hid (∀ W, Calls Tryz.prog 176 #[.string (nt x)] W fun e w' => e = .returned (.tuple #[.int .i64 x.num, .nilIface]) ∧ Below W.heap.size W w') := fun W => atoiV x.num W h64
 have h3 : x.num < 0 ∨ (¬ x.num < 0 ∧ (n : Int) ≤ x.num) ∨ (¬ x.num < 0 ∧ ¬ (n : Int) ≤ x.num) := by omega
 have hi1 := h64.1
 have hi2 := h64.2
 have er : (if 0 ≤ x.num ∧ x.num < n then x.num else 0) = (if x.num < 0 then 0 else if (n : Int) ≤ x.num then 0 else x.num) := by
  by_cases a1 : x.num < 0
  · rw [if_neg (by omega), if_pos a1]
  · by_cases a2 : (n : Int) ≤ x.num
    · rw [if_neg (by omega), if_neg a1, if_pos a2]
    · rw [if_pos (by omega), if_neg a1, if_neg a2]
 have eb : decide (0 ≤ x.num ∧ x.num < n) = (!decide (x.num < 0) && !decide ((n : Int) ≤ x.num)) := by
  by_cases a1 : x.num < 0
  · rw [decide_eq_true a1, decide_eq_false (by omega)]; rfl
  · by_cases a2 : (n : Int) ≤ x.num
    · rw [decide_eq_false a1, decide_eq_true a2, decide_eq_false (by omega)]; rfl
    · rw [decide_eq_false a1, decide_eq_false a2, decide_eq_true (by omega)]; rfl
 rw [er, eb]
 clear er eb hd h64
 generalize x.num = m at *
 rcases h3 with h3 | ⟨h3, h4⟩ | ⟨h3, h4⟩
 · rw [if_pos h3, decide_eq_true h3]
   show Calls _ _ _ _ (RetIB w 0 false)
   have ea : cellsO (.num x) (.slice none 0 0) = [.int .i64 1, .string (nt x), .string (dt x), .string ⟨#[]⟩, .string ⟨#[]⟩, .string ⟨#[]⟩, (.slice none 0 0)] := rfl
   have T := Bx1.new w #[.int .i64 1, .string (nt x), .string (dt x), .string ⟨#[]⟩, .string ⟨#[]⟩, .string ⟨#[]⟩, (.slice none 0 0)]
   rw [vO_cells ea]
   go_enter Tryz.func146, Tryz.ntmps146
   go_wp2_with fail
   generalize w.alloc (.cells #[.int .i64 1, .string (nt x), .string (dt x), .string ⟨#[]⟩, .string ⟨#[]⟩, .string ⟨#[]⟩, (.slice none 0 0)] 27) = W at T ⊢
   have B0 : Hid (Bx W (w.heap.size) (cellsO (.num x) (.slice none 0 0)).toArray) := by rw [ea]; exact T.b0
   have K0 := qh9 (hx.below T.bel)
   have HW := qh9 T.bel
   try rw [← vO_cells ea]
   clear T ea hx
   with_reducible refine (CI.out _ _).mono ?_
   rintro e w1 ⟨rfl, hb⟩
   replace B0 := qh9 (B0.out.keep hb)
   replace K0 := qh9 (K0.out.below hb)
   replace HW := qc9 HW hb
   clear hb
   obtain ⟨m0, m1, m2, m3, m4, m5, m6⟩ := Bx.c B0.out
   clear m0 m2 m3 m4 m5 m6
   go_wp2_with (first | ((with_reducible refine loadB (.tmp 3) ?_ ?_ ?_ B0.out ?_); rfl; rfl; rfl) | ((with_reducible refine loadG (.tmp 3) ?_ ?_ ?_ B0.out ?_); rfl; rfl; rfl))
   with_reducible refine (CA.out _).mono ?_
   rintro e w2 ⟨rfl, hb⟩
   replace B0 := qh9 (B0.out.keep hb)
   replace K0 := qh9 (K0.out.below hb)
   replace HW := qc9 HW hb
   clear hb
   clear m1
   go_wp2_with fail
   go_ret2
   exact ⟨rfl, HW.out⟩
 · rw [if_neg h3, if_pos h4, decide_eq_false h3, decide_eq_true h4]
   show Calls _ _ _ _ (RetIB w 0 false)
   have ea : cellsO (.num x) (.slice none 0 0) = [.int .i64 1, .string (nt x), .string (dt x), .string ⟨#[]⟩, .string ⟨#[]⟩, .string ⟨#[]⟩, (.slice none 0 0)] := rfl
   have T := Bx1.new w #[.int .i64 1, .string (nt x), .string (dt x), .string ⟨#[]⟩, .string ⟨#[]⟩, .string ⟨#[]⟩, (.slice none 0 0)]
   rw [vO_cells ea]
   go_enter Tryz.func146, Tryz.ntmps146
   go_wp2_with fail
   generalize w.alloc (.cells #[.int .i64 1, .string (nt x), .string (dt x), .string ⟨#[]⟩, .string ⟨#[]⟩, .string ⟨#[]⟩, (.slice none 0 0)] 27) = W at T ⊢
   have B0 : Hid (Bx W (w.heap.size) (cellsO (.num x) (.slice none 0 0)).toArray) := by rw [ea]; exact T.b0
   have K0 := qh9 (hx.below T.bel)
   have HW := qh9 T.bel
   try rw [← vO_cells ea]
   clear T ea hx
   with_reducible refine (CI.out _ _).mono ?_
   rintro e w1 ⟨rfl, hb⟩
   replace B0 := qh9 (B0.out.keep hb)
   replace K0 := qh9 (K0.out.below hb)
   replace HW := qc9 HW hb
   clear hb
   obtain ⟨m0, m1, m2, m3, m4, m5, m6⟩ := Bx.c B0.out
   clear m0 m2 m3 m4 m5 m6
   go_wp2_with (first | ((with_reducible refine loadB (.tmp 3) ?_ ?_ ?_ B0.out ?_); rfl; rfl; rfl) | ((with_reducible refine loadG (.tmp 3) ?_ ?_ ?_ B0.out ?_); rfl; rfl; rfl))
   with_reducible refine (CA.out _).mono ?_
   rintro e w2 ⟨rfl, hb⟩
   replace B0 := qh9 (B0.out.keep hb)
   replace K0 := qh9 (K0.out.below hb)
   replace HW := qc9 HW hb
   clear hb
   clear m1
   go_wp2_with fail
   go_ret2
   exact ⟨rfl, HW.out⟩
 · rw [if_neg h3, if_neg h4, decide_eq_false h3, decide_eq_false h4]
   show Calls _ _ _ _ (RetIB w m true)
   have ea : cellsO (.num x) (.slice none 0 0) = [.int .i64 1, .string (nt x), .string (dt x), .string ⟨#[]⟩, .string ⟨#[]⟩, .string ⟨#[]⟩, (.slice none 0 0)] := rfl
   have T := Bx1.new w #[.int .i64 1, .string (nt x), .string (dt x), .string ⟨#[]⟩, .string ⟨#[]⟩, .string ⟨#[]⟩, (.slice none 0 0)]
   rw [vO_cells ea]
   go_enter Tryz.func146, Tryz.ntmps146
   go_wp2_with fail
   generalize w.alloc (.cells #[.int .i64 1, .string (nt x), .string (dt x), .string ⟨#[]⟩, .string ⟨#[]⟩, .string ⟨#[]⟩, (.slice none 0 0)] 27) = W at T ⊢
   have B0 : Hid (Bx W (w.heap.size) (cellsO (.num x) (.slice none 0 0)).toArray) := by rw [ea]; exact T.b0
   have K0 := qh9 (hx.below T.bel)
   have HW := qh9 T.bel
   try rw [← vO_cells ea]
   clear T ea hx
   with_reducible refine (CI.out _ _).mono ?_
   rintro e w1 ⟨rfl, hb⟩
   replace B0 := qh9 (B0.out.keep hb)
   replace K0 := qh9 (K0.out.below hb)
   replace HW := qc9 HW hb
   clear hb
   obtain ⟨m0, m1, m2, m3, m4, m5, m6⟩ := Bx.c B0.out
   clear m0 m2 m3 m4 m5 m6
   go_wp2_with (first | ((with_reducible refine loadB (.tmp 3) ?_ ?_ ?_ B0.out ?_); rfl; rfl; rfl) | ((with_reducible refine loadG (.tmp 3) ?_ ?_ ?_ B0.out ?_); rfl; rfl; rfl))
   with_reducible refine (CA.out _).mono ?_
   rintro e w2 ⟨rfl, hb⟩
   replace B0 := qh9 (B0.out.keep hb)
   replace K0 := qh9 (K0.out.below hb)
   replace HW := qc9 HW hb
   clear hb
   clear m1
   go_wp2_with fail
   go_ret2
   exact ⟨rfl, HW.out⟩
theorem belowP (n : Nat) (hn : n ≤ 1000000) (x : Ob) (p : Value) (w : World) (hx : Hd w x p) (h64 : IntO x) : Calls Tryz.prog 146 #[.int .i64 n, vO x p] w (RetIB w (((idxV n x).getD 0 : Nat) : Int) (idxV n x).isSome) := by
 cases x with
 | num q =>
  have hx' := hx
  obtain rfl : p = .slice none 0 0 := hx'
  by_cases hd : q.den = 1
  · have h := belowN1 n hn q w hx hd (h64 q rfl)
    by_cases hc : 0 ≤ q.num ∧ q.num < n
    · have e : idxV n (.num q) = some q.num.toNat := if_pos ⟨hd, hc⟩
      rw [e]
      rw [if_pos hc, decide_eq_true hc] at h
      show Calls _ _ _ _ (RetIB w ((q.num.toNat : Nat) : Int) true)
      rw [Int.toNat_of_nonneg hc.1]
      exact h
    · have e : idxV n (.num q) = none := if_neg fun h9 => hc h9.2
      rw [e]
      rw [if_neg hc, decide_eq_false hc] at h
      exact h
  · have e : idxV n (.num q) = none := if_neg fun h9 => hd h9.1
    rw [e]
    exact belowN0 n (.num q) _ w hx (by show decide (q.den = 1) = false; exact decide_eq_false hd)
 | str s => exact belowN0 n (.str s) p w hx rfl
 | sym s t => exact belowN0 n (.sym s t) p w hx rfl
 | cons s t => exact belowN0 n (.cons s t) p w hx rfl
theorem idxV_lt {n k : Nat} {x : Ob} (h : idxV n x = some k) : k < n := by
 cases x with
 | num q =>
  simp only [idxV] at h
  split at h
  · rename_i hc; injection h with h; omega
  · cases h
 | _ => cases h
set_option maxHeartbeats 4000000 in
set_option maxRecDepth 100000 in
theorem val23 (x y : Ob) (b o c : Nat) (p q : Value) (w : World) (hx : Ad w x b o p) (hy : Ad w y b (o + 7) q) (hc : 2 ≤ c) (hl : x.strV.length ≤ 2000) (h64 : IntO y) (ht : Tab w) : Calls Tryz.prog 104 #[.slice (some ⟨b, o, none⟩) 2 c] w (RetH w (match idxV x.strV.length y with
 | some k => inO ((x.strV.getD k 0).toNat : Int)
 | none => .nil)) := by
 have CT : Hid (∀ W q, Calls Tryz.prog 145 #[vO x q] W (RetY W (.string (BA x.strV)))) := fun W q => textV x q W
 have CB : Hid (∀ W p, Hd W y p → Calls Tryz.prog 146 #[.int .i64 ((BA x.strV).size : Int), vO y p] W (RetIB W (((idxV x.strV.length y).getD 0 : Nat) : Int) (idxV x.strV.length y).isSome)) := fun W p hp => by
  rw [BA_size]
  exact belowP x.strV.length (by omega) y p W hp h64
 have hk : ∀ k, idxV x.strV.length y = some k → k < x.strV.length := fun k h => idxV_lt h
 generalize idxV x.strV.length y = r at CB hk ⊢
 clear h64
 cases r with
 | none =>
  show Calls _ _ _ _ (RetH w .nil)
  replace CB : Hid (∀ W p, Hd W y p → Calls Tryz.prog 146 #[.int .i64 ((BA x.strV).size : Int), vO y p] W (RetIB W 0 false)) := CB
  generalize BA x.strV = s at CT CB
  clear hk hl
  have HX := qh9 hx
  have HY := qh9 hy
  clear hx hy
  have T := Bx1.new w #[.int .i64 0, .string ⟨#[]⟩, .string ⟨#[]⟩, .string ⟨#[]⟩, .string ⟨#[]⟩, .string ⟨#[]⟩, .slice none 0 0]
  go_enter Tryz.func104, Tryz.ntmps104
  go_upto_region 1 with fail
  generalize w.alloc (.cells #[.int .i64 0, .string ⟨#[]⟩, .string ⟨#[]⟩, .string ⟨#[]⟩, .string ⟨#[]⟩, .string ⟨#[]⟩, .slice none 0 0] 27) = W at T ⊢
  have R0 := qh9 T.b0
  have HW := qh9 T.bel
  have HT := qh9 (ht.below T.bel)
  clear T   ht
  replace HX := qh9 (HX.out.below HW.out)
  replace HY := qh9 (HY.out.below HW.out)
  go_wp2_with (first | ((with_reducible refine loadA ?_ ?_ HX.out ?_); exact ⟨_, rfl, rfl⟩; rfl) | ((with_reducible refine loadAG ?_ ?_ HX.out ?_); exact ⟨_, rfl, rfl⟩; rfl) | ((with_reducible refine loadA ?_ ?_ HY.out ?_); exact ⟨_, rfl, rfl⟩; rfl) | ((with_reducible refine loadAG ?_ ?_ HY.out ?_); exact ⟨_, rfl, rfl⟩; rfl))
  with_reducible refine (CT.out _ _).mono ?_
  rintro e w1 ⟨rfl, hb⟩
  replace R0 := qh9 (R0.out.keep hb)
  replace HW := qc9 HW hb
  replace HT := qh9 (HT.out.below hb)
  replace HX := qh9 (HX.out.below hb)
  replace HY := qh9 (HY.out.below hb)
  clear hb
  go_wp2_with (first | ((with_reducible refine loadA ?_ ?_ HX.out ?_); exact ⟨_, rfl, rfl⟩; rfl) | ((with_reducible refine loadAG ?_ ?_ HX.out ?_); exact ⟨_, rfl, rfl⟩; rfl) | ((with_reducible refine loadA ?_ ?_ HY.out ?_); exact ⟨_, rfl, rfl⟩; rfl) | ((with_reducible refine loadAG ?_ ?_ HY.out ?_); exact ⟨_, rfl, rfl⟩; rfl))
  with_reducible refine (CB.out _ _ HY.out.hd).mono ?_
  rintro e w2 ⟨rfl, hb⟩
  replace R0 := qh9 (R0.out.keep hb)
  replace HW := qc9 HW hb
  replace HT := qh9 (HT.out.below hb)
  replace HX := qh9 (HX.out.below hb)
  replace HY := qh9 (HY.out.below hb)
  clear hb
  go_wp2_with (first | ((with_reducible refine loadA ?_ ?_ HX.out ?_); exact ⟨_, rfl, rfl⟩; rfl) | ((with_reducible refine loadAG ?_ ?_ HX.out ?_); exact ⟨_, rfl, rfl⟩; rfl) | ((with_reducible refine loadA ?_ ?_ HY.out ?_); exact ⟨_, rfl, rfl⟩; rfl) | ((with_reducible refine loadAG ?_ ?_ HY.out ?_); exact ⟨_, rfl, rfl⟩; rfl))
  with_reducible refine (nilH _).mono ?_
  rintro e w3 ⟨pr, rfl, kr, hb⟩
  replace R0 := qh9 (R0.out.keep hb)
  replace HW := qc9 HW hb
  replace HT := qh9 (HT.out.below hb)
  replace HX := qh9 (HX.out.below hb)
  replace HY := qh9 (HY.out.below hb)
  clear hb
  replace kr := qh9 kr
  go_wp2_with (first | ((with_reducible refine storeB (w1 := w3) (g := w.heap.size) (b := .nil) (p := pr) (.tmp 2) (.tmp 21) ?_ ?_ ?_ ?_ kr.out R0.out ?_); rfl; rfl; rfl; rfl) | ((with_reducible refine loadA ?_ ?_ HX.out ?_); exact ⟨_, rfl, rfl⟩; rfl) | ((with_reducible refine loadAG ?_ ?_ HX.out ?_); exact ⟨_, rfl, rfl⟩; rfl) | ((with_reducible refine loadA ?_ ?_ HY.out ?_); exact ⟨_, rfl, rfl⟩; rfl) | ((with_reducible refine loadAG ?_ ?_ HY.out ?_); exact ⟨_, rfl, rfl⟩; rfl))
  exact retHs rfl rfl R0.out rfl kr.out (by omega) HW.out
 | some k =>
  replace hk := hk k rfl
  show Calls _ _ _ _ (RetH w (inO ((x.strV.getD k 0).toNat : Int)))
  replace CB : Hid (∀ W p, Hd W y p → Calls Tryz.prog 146 #[.int .i64 ((BA x.strV).size : Int), vO y p] W (RetIB W (k : Int) true)) := CB
  generalize hs : BA x.strV = s at CT CB
  have hks : k < s.size := by rw [← hs, BA_size]; exact hk
  have eg : x.strV.getD k 0 = s[k] := by
   subst hs
   rw [List.getD_eq_getElem?_getD, List.getElem?_eq_getElem hk]
   rfl
  rw [eg]
  have CI : Hid (∀ W, Tab W → Calls Tryz.prog 137 #[.int .i64 (s[k].toNat : Int)] W (RetH W (inO (s[k].toNat : Int)))) := fun W hT => intH _ W (i64_small (by have := s[k].toNat_lt; omega)) hT
  generalize inO (s[k].toNat : Int) = res at CI ⊢
  clear eg hk hl hs
  have ew : wrap64 (s[k].toNat : Int) = s[k].toNat := IntWalk.wrap64_in _ (by have := s[k].toNat_lt; omega)
  have hk0 : (0 : Int) ≤ (k : Int) := by omega
  have hk1 : (k : Int) < (s.size : Int) := by omega
  have HX := qh9 hx
  have HY := qh9 hy
  clear hx hy
  have T := Bx1.new w #[.int .i64 0, .string ⟨#[]⟩, .string ⟨#[]⟩, .string ⟨#[]⟩, .string ⟨#[]⟩, .string ⟨#[]⟩, .slice none 0 0]
  go_enter Tryz.func104, Tryz.ntmps104
  go_upto_region 1 with fail
  generalize w.alloc (.cells #[.int .i64 0, .string ⟨#[]⟩, .string ⟨#[]⟩, .string ⟨#[]⟩, .string ⟨#[]⟩, .string ⟨#[]⟩, .slice none 0 0] 27) = W at T ⊢
  have R0 := qh9 T.b0
  have HW := qh9 T.bel
  have HT := qh9 (ht.below T.bel)
  clear T   ht
  replace HX := qh9 (HX.out.below HW.out)
  replace HY := qh9 (HY.out.below HW.out)
  go_wp2_with (first | ((with_reducible refine loadA ?_ ?_ HX.out ?_); exact ⟨_, rfl, rfl⟩; rfl) | ((with_reducible refine loadAG ?_ ?_ HX.out ?_); exact ⟨_, rfl, rfl⟩; rfl) | ((with_reducible refine loadA ?_ ?_ HY.out ?_); exact ⟨_, rfl, rfl⟩; rfl) | ((with_reducible refine loadAG ?_ ?_ HY.out ?_); exact ⟨_, rfl, rfl⟩; rfl))
  with_reducible refine (CT.out _ _).mono ?_
  rintro e w1 ⟨rfl, hb⟩
  replace R0 := qh9 (R0.out.keep hb)
  replace HW := qc9 HW hb
  replace HT := qh9 (HT.out.below hb)
  replace HX := qh9 (HX.out.below hb)
  replace HY := qh9 (HY.out.below hb)
  clear hb
  go_wp2_with (first | ((with_reducible refine loadA ?_ ?_ HX.out ?_); exact ⟨_, rfl, rfl⟩; rfl) | ((with_reducible refine loadAG ?_ ?_ HX.out ?_); exact ⟨_, rfl, rfl⟩; rfl) | ((with_reducible refine loadA ?_ ?_ HY.out ?_); exact ⟨_, rfl, rfl⟩; rfl) | ((with_reducible refine loadAG ?_ ?_ HY.out ?_); exact ⟨_, rfl, rfl⟩; rfl))
  with_reducible refine (CB.out _ _ HY.out.hd).mono ?_
  rintro e w2 ⟨rfl, hb⟩
  replace R0 := qh9 (R0.out.keep hb)
  replace HW := qc9 HW hb
  replace HT := qh9 (HT.out.below hb)
  replace HX := qh9 (HX.out.below hb)
  replace HY := qh9 (HY.out.below hb)
  clear hb
  go_wp2_with (first | ((with_reducible refine loadA ?_ ?_ HX.out ?_); exact ⟨_, rfl, rfl⟩; rfl) | ((with_reducible refine loadAG ?_ ?_ HX.out ?_); exact ⟨_, rfl, rfl⟩; rfl) | ((with_reducible refine loadA ?_ ?_ HY.out ?_); exact ⟨_, rfl, rfl⟩; rfl) | ((with_reducible refine loadAG ?_ ?_ HY.out ?_); exact ⟨_, rfl, rfl⟩; rfl))
  with_reducible refine (CI.out _ HT.out).mono ?_
  rintro e w3 ⟨pr, rfl, kr, hb⟩
  replace R0 := qh9 (R0.out.keep hb)
  replace HW := qc9 HW hb
  replace HT := qh9 (HT.out.below hb)
  replace HX := qh9 (HX.out.below hb)
  replace HY := qh9 (HY.out.below hb)
  clear hb
  replace kr := qh9 kr
  go_wp2_with (first | ((with_reducible refine storeB (w1 := w3) (g := w.heap.size) (b := res) (p := pr) (.tmp 2) (.tmp 26) ?_ ?_ ?_ ?_ kr.out R0.out ?_); rfl; rfl; rfl; rfl) | ((with_reducible refine loadA ?_ ?_ HX.out ?_); exact ⟨_, rfl, rfl⟩; rfl) | ((with_reducible refine loadAG ?_ ?_ HX.out ?_); exact ⟨_, rfl, rfl⟩; rfl) | ((with_reducible refine loadA ?_ ?_ HY.out ?_); exact ⟨_, rfl, rfl⟩; rfl) | ((with_reducible refine loadAG ?_ ?_ HY.out ?_); exact ⟨_, rfl, rfl⟩; rfl))
  exact retHs rfl rfl R0.out rfl kr.out (by omega) HW.out
set_option maxHeartbeats 4000000 in
set_option maxRecDepth 100000 in
theorem val24 (x : Ob) (b o c : Nat) (p : Value) (w : World) (hx : Ad w x b o p) (hc : 1 ≤ c) (h64 : IntO x) : Calls Tryz.prog 106 #[.slice (some ⟨b, o, none⟩) 1 c] w (RetH w (.str (match idxV 256 x with
 | some k => [UInt8.ofNat k]
 | none => []))) := by
 have CB : Hid (∀ W p, Hd W x p → Calls Tryz.prog 146 #[.int .i64 256, vO x p] W (RetIB W (((idxV 256 x).getD 0 : Nat) : Int) (idxV 256 x).isSome)) := fun W p hp => belowP 256 (by omega) x p W hp h64
 have hk : ∀ k, idxV 256 x = some k → k < 256 := fun k h => idxV_lt h
 generalize idxV 256 x = r at CB hk ⊢
 clear h64
 cases r with
 | none =>
  show Calls _ _ _ _ (RetH w (.str (LA ⟨#[]⟩)))
  replace CB : Hid (∀ W p, Hd W x p → Calls Tryz.prog 146 #[.int .i64 256, vO x p] W (RetIB W 0 false)) := CB
  clear hk
  have HX := qh9 hx
  clear hx
  have T := Bx1.new w #[.int .i64 0, .string ⟨#[]⟩, .string ⟨#[]⟩, .string ⟨#[]⟩, .string ⟨#[]⟩, .string ⟨#[]⟩, .slice none 0 0]
  go_enter Tryz.func106, Tryz.ntmps106
  go_upto_region 1 with fail
  generalize w.alloc (.cells #[.int .i64 0, .string ⟨#[]⟩, .string ⟨#[]⟩, .string ⟨#[]⟩, .string ⟨#[]⟩, .string ⟨#[]⟩, .slice none 0 0] 27) = W at T ⊢
  have R0 := qh9 T.b0
  have HW := qh9 T.bel
  clear T  
  replace HX := qh9 (HX.out.below HW.out)
  go_wp2_with (first | ((with_reducible refine loadA ?_ ?_ HX.out ?_); exact ⟨_, rfl, rfl⟩; rfl) | ((with_reducible refine loadAG ?_ ?_ HX.out ?_); exact ⟨_, rfl, rfl⟩; rfl))
  with_reducible refine (CB.out _ _ HX.out.hd).mono ?_
  rintro e w1 ⟨rfl, hb⟩
  replace R0 := qh9 (R0.out.keep hb)
  replace HW := qc9 HW hb
  replace HX := qh9 (HX.out.below hb)
  clear hb
  go_wp2_with (first | ((with_reducible refine loadA ?_ ?_ HX.out ?_); exact ⟨_, rfl, rfl⟩; rfl) | ((with_reducible refine loadAG ?_ ?_ HX.out ?_); exact ⟨_, rfl, rfl⟩; rfl))
  with_reducible refine (textH _ _).mono ?_
  rintro e w2 ⟨pr, rfl, kr, hb⟩
  replace R0 := qh9 (R0.out.keep hb)
  replace HW := qc9 HW hb
  replace HX := qh9 (HX.out.below hb)
  clear hb
  replace kr := qh9 kr
  go_wp2_with (first | ((with_reducible refine storeB (w1 := w2) (g := w.heap.size) (b := .str (LA ⟨#[]⟩)) (p := pr) (.tmp 2) (.tmp 14) ?_ ?_ ?_ ?_ kr.out R0.out ?_); rfl; rfl; rfl; rfl) | ((with_reducible refine loadA ?_ ?_ HX.out ?_); exact ⟨_, rfl, rfl⟩; rfl) | ((with_reducible refine loadAG ?_ ?_ HX.out ?_); exact ⟨_, rfl, rfl⟩; rfl))
  exact retHs rfl rfl R0.out rfl kr.out (by omega) HW.out
 | some k =>
  replace hk := hk k rfl
  show Calls _ _ _ _ (RetH w (.str (LA ⟨#[UInt8.ofNat k]⟩)))
  replace CB : Hid (∀ W p, Hd W x p → Calls Tryz.prog 146 #[.int .i64 256, vO x p] W (RetIB W (k : Int) true)) := CB
  have ew : IntKind.u8.wrap (k : Int) = k := IntWalk.u8_in _ (by omega)
  have hconv : ∀ W : World, (convert 33 9 (.slice (some ⟨W.heap.size, 0, none⟩) 1 1)).run Tryz.prog (W.alloc (.cells #[.int .u8 (k : Int)] 5)) = .ok (.string ⟨#[UInt8.ofNat k]⟩) (W.alloc (.cells #[.int .u8 (k : Int)] 5)) := fun W =>
   run_convert_bytes_back _ 33 9 5 ⟨W.heap.size, 0, none⟩ 1 [UInt8.ofNat k] Tryz.underlying33 Tryz.underlying5 Tryz.underlying9 (fun j hj => by
    have hj0 : j = 0 := by simpa using hj
    subst hj0
    show (W.alloc _).cell? ((⟨W.heap.size, 0, none⟩ : Addr).add 0) = some (.int .u8 ((UInt8.ofNat k).toNat : Int))
    rw [show (UInt8.ofNat k).toNat = k from by simp; omega]
    exact cell_one_at W (.int .u8 (k : Int)) _ _ rfl 0 _ rfl)
  have HX := qh9 hx
  clear hx
  have T := Bx1.new w #[.int .i64 0, .string ⟨#[]⟩, .string ⟨#[]⟩, .string ⟨#[]⟩, .string ⟨#[]⟩, .string ⟨#[]⟩, .slice none 0 0]
  go_enter Tryz.func106, Tryz.ntmps106
  go_upto_region 1 with fail
  generalize w.alloc (.cells #[.int .i64 0, .string ⟨#[]⟩, .string ⟨#[]⟩, .string ⟨#[]⟩, .string ⟨#[]⟩, .string ⟨#[]⟩, .slice none 0 0] 27) = W at T ⊢
  have R0 := qh9 T.b0
  have HW := qh9 T.bel
  clear T  
  replace HX := qh9 (HX.out.below HW.out)
  go_wp2_with (first | ((with_reducible refine loadA ?_ ?_ HX.out ?_); exact ⟨_, rfl, rfl⟩; rfl) | ((with_reducible refine loadAG ?_ ?_ HX.out ?_); exact ⟨_, rfl, rfl⟩; rfl))
  with_reducible refine (CB.out _ _ HX.out.hd).mono ?_
  rintro e w1 ⟨rfl, hb⟩
  replace R0 := qh9 (R0.out.keep hb)
  replace HW := qc9 HW hb
  replace HX := qh9 (HX.out.below hb)
  clear hb
  go_wp2_with (first | ((with_reducible refine loadA ?_ ?_ HX.out ?_); exact ⟨_, rfl, rfl⟩; rfl) | ((with_reducible refine loadAG ?_ ?_ HX.out ?_); exact ⟨_, rfl, rfl⟩; rfl))
  have hb : Below w1.heap.size w1 (w1.alloc (.cells #[.int .u8 (k : Int)] 5)) := Below.alloc (Below.refl _ _) (Nat.le_refl _) _
  generalize w1.alloc (.cells #[.int .u8 (k : Int)] 5) = X1 at hb ⊢
  replace R0 := qh9 (R0.out.keep hb)
  replace HW := qc9 HW hb
  replace HX := qh9 (HX.out.below hb)
  clear hb
  with_reducible refine (textH _ _).mono ?_
  rintro e w2 ⟨pr, rfl, kr, hb⟩
  replace R0 := qh9 (R0.out.keep hb)
  replace HW := qc9 HW hb
  replace HX := qh9 (HX.out.below hb)
  clear hb
  replace kr := qh9 kr
  go_wp2_with (first | ((with_reducible refine storeB (w1 := w2) (g := w.heap.size) (b := .str (LA ⟨#[UInt8.ofNat k]⟩)) (p := pr) (.tmp 2) (.tmp 19) ?_ ?_ ?_ ?_ kr.out R0.out ?_); rfl; rfl; rfl; rfl) | ((with_reducible refine loadA ?_ ?_ HX.out ?_); exact ⟨_, rfl, rfl⟩; rfl) | ((with_reducible refine loadAG ?_ ?_ HX.out ?_); exact ⟨_, rfl, rfl⟩; rfl))
  exact retHs rfl rfl R0.out rfl kr.out (by omega) HW.out
section
variable {Q : Exit → Act → World → Prop}
end
end Go.Proofs.YtbffnoodpoagcaaGreatDoor
