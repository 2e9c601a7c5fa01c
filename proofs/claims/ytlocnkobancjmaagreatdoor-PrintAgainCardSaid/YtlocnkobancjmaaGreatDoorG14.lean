import Derived.Test.YtlocnkobancjmaaGreatDoorAl
import Derived.Test.YtlocnkobancjmaaGreatDoorG13
import Derived.Test.YtlocnkobancjmaaGreatDoorSh0
import Derived.WalkKit
import Derived.BigQuiet
import Derived.WalkMore
import Derived.BigCall
import Derived.Lib.OthersKept
import Derived.Shelf.Strings.Runes
import Derived.Shelf.Small.Utf8
import Derived.Shelf.Small.Strs
import Derived.Test.YtlocnkobancjmaaGreatDoorG11
import Derived.Test.YtlocnkobancjmaaGreatDoorG12
import Derived.Deep.RegionHeld3
namespace Go.Proofs.YtlocnkobancjmaaGreatDoor
open Go Go.RowKit
set_option linter.unusedVariables false
set_option maxHeartbeats 32000000
set_option maxRecDepth 100000
theorem two_asc (m : UInt8) (hm : m.toNat < 128) : ∀ j (hj : j < (⟨#[m, 92]⟩ : ByteArray).size), ((⟨#[m, 92]⟩ : ByteArray)[j]'hj).toNat < 128 := fun j hj => by
 match j, hj with
 | 0, _ => exact hm
 | 1, _ => show (92 : UInt8).toNat < 128; decide
 | j + 2, hj => exact absurd hj (by show ¬ j + 2 < 2; omega)
/-- The bytes of a rune that is not ASCII. -/
theorem enc_form (r : Int) (hv : Lib.validRune r = true) (h : 128 ≤ r) : (∃ a b : UInt8, 128 ≤ b.toNat ∧ Utf8.encode r = ⟨#[a, b]⟩) ∨ (∃ a b c : UInt8, Utf8.encode r = ⟨#[a, b, c]⟩) ∨ ∃ a b c d : UInt8, Utf8.encode r = ⟨#[a, b, c, d]⟩ := by
 have hv2 : Utf8.valid r = true := by
  unfold Lib.validRune at hv
  rw [decide_eq_true_eq] at hv
  unfold Utf8.valid
  simp only [Bool.or_eq_true, Bool.and_eq_true, decide_eq_true_eq]
  omega
 have hc : ¬ r.toNat < 128 := by omega
 unfold Utf8.encode
 simp only [hv2, if_true, hc, if_false]
 split
 · exact .inl ⟨_, _, by simp; omega, rfl⟩
 · split
   · exact .inr (.inl ⟨_, _, _, rfl⟩)
   · exact .inr (.inr ⟨_, _, _, _, rfl⟩)
theorem drew_below (w : World) (n : Nat) : Below w.heap.size w (w.drewN n) := (Sy.QuietY.below (w := w) (v := .bool true) (e := .returned (.bool true)) ⟨rfl, n, rfl⟩).2
theorem ixErr (m : UInt8) (hm : m.toNat < 128) (w : World) :
 Calls Tryz.prog 226 #[.string ⟨#[m, 92]⟩, .int .i32 65533] w fun e w' => e = .returned (.int .i64 (-1)) ∧ Below w.heap.size w w' := by
 have AS := qh9 (two_asc m hm)
 obtain ⟨s, hs⟩ : ∃ s : ByteArray, s = ⟨#[m, 92]⟩ := ⟨_, rfl⟩
 rw [← hs] at AS ⊢
 clear hs hm
 go_enter Tryz.func226, Tryz.ntmps226
 go_wp2
 go_loopw [] (fun wr => ∃ j : Nat, j ≤ s.size ∧ Hid (wr.heap[w.heap.size]? = some (.stringIter s j) ∧ Below w.heap.size w wr)) (fun wr => s.size - wr.iterPos w.heap.size)
 case atStart =>
  exact ⟨0, Nat.zero_le _, World.iter_heap w s 0, (Below.refl _ w).alloc (Nat.le_refl _) _⟩
 case round =>
  obtain ⟨j, hj, HI⟩ := hrel
  by_cases hp : j < s.size
  · have hne : (((s[j]'hp).toNat : Int) == 65533) = false := by rw [beq_eq_false_iff_ne]; have := AS.out j hp; omega
    have hnx : ∀ ty, (Instr.next (.pointer (some ⟨w.heap.size, 0, none⟩)) true ty).run Tryz.prog wr = _ := fun ty => Lib.run_next_ascii_at wr w.heap.size s j ty HI.out.1 hp (AS.out j hp)
    have HI2 : Hid ((wr.iterAt w.heap.size s (j + 1)).heap[w.heap.size]? = some (.stringIter s (j + 1)) ∧ Below w.heap.size w (wr.iterAt w.heap.size s (j + 1))) := ⟨Lib.iterAt_heap _ _ _ _ _ HI.out.1, Lib.below_iterAt HI.out.2 (Nat.le_refl _) _ _⟩
    go_wp2
    go_roundw
    case rel => exact ⟨j + 1, hp, HI2⟩
    case measure =>
     simp only [World.iterPos, HI2.out.1, HI.out.1]
     omega
  · have hnx : ∀ ty, (Instr.next (.pointer (some ⟨w.heap.size, 0, none⟩)) true ty).run Tryz.prog wr = _ := fun ty => Lib.run_next_end_at wr w.heap.size s j ty HI.out.1 hp
    go_wp2
    go_ret
    exact ⟨rfl, HI.out.2⟩
theorem ixHigh (m : UInt8) (hm : m.toNat < 128) (r : Int) (h1 : 128 ≤ r) (h2 : r ≤ 2147483647) (w : World) :
 Calls Tryz.prog 226 #[.string ⟨#[m, 92]⟩, .int .i32 r] w fun e w' => e = .returned (.int .i64 (-1)) ∧ Below w.heap.size w w' := by
 by_cases hE : r = 65533
 · subst hE
   exact ixErr m hm w
 · have e1 : (r == 65533) = false := beq_eq_false_iff_ne.2 hE
   have hlt : ¬ r < 128 := by omega
   have h0 : 0 ≤ r := by omega
   obtain ⟨v, hv⟩ : ∃ v, Lib.validRune r = v := ⟨_, rfl⟩
   have CV : Hid (∀ X, Calls Tryz.prog 257 #[.int .i32 r] X fun e w' => e = .returned (.bool v) ∧ w' = X) := fun X => hv ▸ Tryz.utf8_ValidRune r X
   cases v with
   | false =>
    clear hv hE h1 h2
    go_enter Tryz.func226, Tryz.ntmps226
    go_wp2_with fail
    with_reducible refine (CV.out _).mono ?_
    rintro e w1 ⟨rfl, rfl⟩
    go_wp2
    go_ret
    exact ⟨rfl, Below.refl _ _⟩
   | true =>
    have hf := qh9 (enc_form r hv h1)
    clear hv hE h1 h2
    go_enter Tryz.func226, Tryz.ntmps226
    go_wp2_with fail
    with_reducible refine (CV.out _).mono ?_
    rintro e w1 ⟨rfl, rfl⟩
    rcases hf.out with ⟨a, b, hb, he⟩ | ⟨a, b, c, he⟩ | ⟨a, b, c, d, he⟩
    · have hcv : ∀ X, (convert 21 9 (.int .i32 r)).run Tryz.prog X = .ok (.string ⟨#[a, b]⟩) X := fun X => by rw [run_convert_int_string X 21 9 .i32 r (by kernel_rfl) Tryz.underlying9, he]
      clear he hf
      have hbn : ((((⟨#[m, 92]⟩ : ByteArray)[1]'(by show 1 < 2; omega)).toNat : Int) != (((⟨#[a, b]⟩ : ByteArray)[1]'(by show 1 < 2; omega)).toNat : Int)) = true := by
       show ((92 : Int) != (b.toNat : Int)) = true
       rw [bne_iff_ne]; omega
      go_wp2
      go_step3
      go_wp2
      go_loopw [9, 10] (fun u v wr => u = .int .i64 1 ∧ v = .int .i64 0 ∧ wr = w1) (fun _ _ _ => 0)
      case atStart => exact ⟨rfl, rfl, rfl⟩
      case round =>
       obtain ⟨rfl, rfl, rfl⟩ := hrel
       go_wp2_with fail
       go_step3
       go_upto_region 6 with fail
       go_quiet (fail)
       go_upto_region 7 with fail
       have hbX := drew_below wr nq
       generalize wr.drewN nq = X at hbX ⊢
       have HBX := qh9 hbX
       clear hbX
       have CI : Hid (∀ X, Calls Tryz.prog 241 #[.string ByteArray.empty, .int .u8 (((⟨#[a, b]⟩ : ByteArray)[1]'(by show 1 < 2; omega)).toNat : Int)] X (Sy.QuietY X (.int .i64 (-1)))) := fun X =>
        (Tryz.strings_IndexByte _ _ _).mono fun e w' ⟨h1, h2⟩ => ⟨h1, 0, h2⟩
       have hw2 : IntKind.i64.wrap 2 = 2 := by decide
       have hs2 : (2 : Int) ≤ (((⟨#[m, 92]⟩ : ByteArray).size : Nat) : Int) := by show (2 : Int) ≤ 2; omega
       go_quiet ((go_at_call 241; exact Calls.quiet_of (CI.out _)))
       go_wp2
       rw [Exit.noGoto_ret]
       first | (rw [Exit.inBlock_ret]) | (simp only [Exit.inBlock])
       go_wp2
       first | (rw [Exit.noGoto_ret]) | skip
       go_ret
       exact ⟨rfl, HBX.out.trans ((drew_below X _).mono HBX.out.size)⟩
    · have hcv : ∀ X, (convert 21 9 (.int .i32 r)).run Tryz.prog X = .ok (.string ⟨#[a, b, c]⟩) X := fun X => by rw [run_convert_int_string X 21 9 .i32 r (by kernel_rfl) Tryz.underlying9, he]
      clear he hf
      go_wp2
      go_step3
      go_wp2
      go_loopw [9, 10] (fun u v wr => u = .int .i64 2 ∧ v = .int .i64 0 ∧ wr = w1) (fun _ _ _ => 0)
      case atStart => exact ⟨rfl, rfl, rfl⟩
      case round =>
       obtain ⟨rfl, rfl, rfl⟩ := hrel
       go_wp2
       rw [Exit.noGoto_ret]
       go_ret
       exact ⟨rfl, Below.refl _ _⟩
    · have hcv : ∀ X, (convert 21 9 (.int .i32 r)).run Tryz.prog X = .ok (.string ⟨#[a, b, c, d]⟩) X := fun X => by rw [run_convert_int_string X 21 9 .i32 r (by kernel_rfl) Tryz.underlying9, he]
      clear he hf
      go_wp2
      go_step3
      go_wp2
      go_loopw [9, 10] (fun u v wr => u = .int .i64 3 ∧ v = .int .i64 0 ∧ wr = w1) (fun _ _ _ => 0)
      case atStart => exact ⟨rfl, rfl, rfl⟩
      case round =>
       obtain ⟨rfl, rfl, rfl⟩ := hrel
       go_wp2
       rw [Exit.noGoto_ret]
       go_ret
       exact ⟨rfl, Below.refl _ _⟩
/-- strings.ContainsRune over a mark and a backslash. -/
theorem hasLow (m : UInt8) (c : UInt8) (hc : c.toNat < 128) (w : World) :
 Calls Tryz.prog 173 #[.string ⟨#[m, 92]⟩, .int .i32 (c.toNat : Int)] w fun e w' => e = .returned (.bool (decide (c = m ∨ c = 92))) ∧ w' = w := by
 refine (Tryz.strings_ContainsRune_ascii ⟨#[m, 92]⟩ (c.toNat : Int) w (by omega) (by omega)).mono ?_
 rintro e w1 ⟨rfl, rfl⟩
 refine ⟨?_, rfl⟩
 have ec : ((c.toNat : Int)).toNat.toUInt8 = c := by simp
 rw [ec, show (⟨#[m, 92]⟩ : ByteArray).data.toList = [m, 92] from rfl, ix_two]
theorem hasHigh (m : UInt8) (hm : m.toNat < 128) (r : Int) (h1 : 128 ≤ r) (h2 : r ≤ 2147483647) (w : World) :
 Calls Tryz.prog 173 #[.string ⟨#[m, 92]⟩, .int .i32 r] w fun e w' => e = .returned (.bool false) ∧ Below w.heap.size w w' := by
 have C := qh9 (ixHigh m hm r h1 h2 w)
 clear hm h1 h2
 go_enter Tryz.func173, Tryz.ntmps173
 go_wp2_with fail
 with_reducible refine C.out.mono ?_
 rintro e w1 ⟨rfl, hb⟩
 go_wp2
 go_ret
 exact ⟨rfl, hb⟩
abbrev Key := Int × List UInt8 × List UInt8 × List UInt8
section
variable (nm kp : List UInt8 → List UInt8 → List UInt8)
mutual
/-- The text of an object; nm: that of a symbol. -/
def prO : Ob → List UInt8
 | .num q => numS q
 | .str s => escL 34 s
 | .sym p n => nm p n
 | .cons a (.cons x e) => if a = quoteO ∧ e = .nil then 39 :: prO x else 40 :: (prO a ++ prT (.cons x e))
 | .cons a (.num q) => 40 :: (prO a ++ prT (.num q))
 | .cons a (.str s) => 40 :: (prO a ++ prT (.str s))
 | .cons a (.sym p n) => 40 :: (prO a ++ prT (.sym p n))
/-- The text behind the elements of a list. -/
def prT : Ob → List UInt8
 | .cons a d => 32 :: (prO a ++ prT d)
 | .sym p n => if Ob.sym p n = .nil then [41] else 32 :: 46 :: 32 :: (nm p n ++ [41])
 | .num q => 32 :: 46 :: 32 :: (numS q ++ [41])
 | .str s => 32 :: 46 :: 32 :: (escL 34 s ++ [41])
end
mutual
/-- The tokens of the text, without their places; kp: the package that a symbol's token has. -/
def tkO : Ob → List Key
 | .num q => [(5, [], LA (nt q), LA (dt q))]
 | .str s => [(7, [], s, [])]
 | .sym p n => [(6, kp p n, n, [])]
 | .cons a (.cons x e) => if a = quoteO ∧ e = .nil then (4, [], [], []) :: tkO x else (1, [], [], []) :: (tkO a ++ tkT (.cons x e))
 | .cons a (.num q) => (1, [], [], []) :: (tkO a ++ tkT (.num q))
 | .cons a (.str s) => (1, [], [], []) :: (tkO a ++ tkT (.str s))
 | .cons a (.sym p n) => (1, [], [], []) :: (tkO a ++ tkT (.sym p n))
def tkT : Ob → List Key
 | .cons a d => tkO a ++ tkT d
 | .sym p n => if Ob.sym p n = .nil then [(2, [], [], [])] else [(3, [], [], []), (6, kp p n, n, []), (2, [], [], [])]
 | .num q => [(3, [], [], []), (5, [], LA (nt q), LA (dt q)), (2, [], [], [])]
 | .str s => [(3, [], [], []), (7, [], s, []), (2, [], [], [])]
end
/-- Numbers and strings within the limits; of symbols what P says. -/
def OkP (P : List UInt8 → List UInt8 → Prop) : Ob → Prop
 | .num q => NumOk q
 | .str s => s.length ≤ 200
 | .sym p n => P p n
 | .cons a d => OkP P a ∧ OkP P d
/-- What is asked of a symbol: its text is read as one token. -/
def SymRd (n : Nat) (p m : List UInt8) : Prop := ∀ r, Delim r → Begins n (nm p m ++ r) [(6, kp p m, m, [])] r
theorem prT_delim (d : Ob) (r : List UInt8) : Delim (prT nm d ++ r) := by
 cases d with
 | cons a d => unfold prT; exact delim_sp _
 | num q => unfold prT; exact delim_sp _
 | str s => unfold prT; exact delim_sp _
 | sym p n =>
  unfold prT
  split
  · exact delim_cl _
  · exact delim_sp _
theorem begins_dotted {n : Nat} {w r : List UInt8} {k : Key} (h : ∀ r, Delim r → Begins n (w ++ r) [k] r) : Begins n (32 :: 46 :: 32 :: (w ++ [41]) ++ r) [(3, [], [], []), k, (2, [], [], [])] r := by
 have e : 32 :: 46 :: 32 :: (w ++ [41]) ++ r = 32 :: 46 :: 32 :: (w ++ 41 :: r) := by simp
 rw [e]
 exact ((begins_sp n _).trans (begins_dot n _ (delim_sp _))).trans ((begins_sp n _).trans ((h _ (delim_cl r)).trans (begins_close n r)))
mutual
theorem begins_ob (n : Nat) : ∀ (o : Ob) (r : List UInt8), OkP (SymRd nm kp n) o → Delim r → Begins n (prO nm o ++ r) (tkO kp o) r
 | .num q, r, h, hr => by unfold prO tkO; exact begins_num n q h r hr
 | .str s, r, h, hr => by unfold prO tkO; exact begins_str n s r h
 | .sym p m, r, h, hr => by unfold prO tkO; exact h r hr
 | .cons a (.cons x e), r, h, hr => by
  unfold prO tkO
  by_cases hq : a = quoteO ∧ e = .nil
  · rw [if_pos hq, if_pos hq]
    have h1 := begins_ob n x r h.2.1 hr
    exact (begins_quote n (prO nm x ++ r)).trans h1
  · rw [if_neg hq, if_neg hq]
    have h1 := begins_ob n a (prT nm (.cons x e) ++ r) h.1 (prT_delim nm _ r)
    have h2 := begins_tl n (.cons x e) r h.2
    have e' : 40 :: (prO nm a ++ prT nm (.cons x e)) ++ r = 40 :: (prO nm a ++ (prT nm (.cons x e) ++ r)) := by simp
    rw [e']
    exact (begins_open n _).trans (h1.trans h2)
 | .cons a (.num q), r, h, hr => by
  unfold prO tkO
  have h1 := begins_ob n a (prT nm (.num q) ++ r) h.1 (prT_delim nm _ r)
  have h2 := begins_tl n (.num q) r h.2
  have e' : 40 :: (prO nm a ++ prT nm (.num q)) ++ r = 40 :: (prO nm a ++ (prT nm (.num q) ++ r)) := by simp
  rw [e']
  exact (begins_open n _).trans (h1.trans h2)
 | .cons a (.str s), r, h, hr => by
  unfold prO tkO
  have h1 := begins_ob n a (prT nm (.str s) ++ r) h.1 (prT_delim nm _ r)
  have h2 := begins_tl n (.str s) r h.2
  have e' : 40 :: (prO nm a ++ prT nm (.str s)) ++ r = 40 :: (prO nm a ++ (prT nm (.str s) ++ r)) := by simp
  rw [e']
  exact (begins_open n _).trans (h1.trans h2)
 | .cons a (.sym p m), r, h, hr => by
  unfold prO tkO
  have h1 := begins_ob n a (prT nm (.sym p m) ++ r) h.1 (prT_delim nm _ r)
  have h2 := begins_tl n (.sym p m) r h.2
  have e' : 40 :: (prO nm a ++ prT nm (.sym p m)) ++ r = 40 :: (prO nm a ++ (prT nm (.sym p m) ++ r)) := by simp
  rw [e']
  exact (begins_open n _).trans (h1.trans h2)
theorem begins_tl (n : Nat) : ∀ (o : Ob) (r : List UInt8), OkP (SymRd nm kp n) o → Begins n (prT nm o ++ r) (tkT kp o) r
 | .cons a d, r, h => by
  unfold prT tkT
  have h1 := begins_ob n a (prT nm d ++ r) h.1 (prT_delim nm d r)
  have h2 := begins_tl n d r h.2
  have e' : 32 :: (prO nm a ++ prT nm d) ++ r = 32 :: (prO nm a ++ (prT nm d ++ r)) := by simp
  rw [e']
  exact (begins_sp n _).trans (h1.trans h2)
 | .num q, r, h => by unfold prT tkT; exact begins_dotted (fun r' hr => begins_num n q h r' hr)
 | .str s, r, h => by unfold prT tkT; exact begins_dotted (fun r' hr => begins_str n s r' h)
 | .sym p m, r, h => by
  unfold prT tkT
  by_cases hn : Ob.sym p m = .nil
  · rw [if_pos hn, if_pos hn]; exact begins_close n r
  · rw [if_neg hn, if_neg hn]; exact begins_dotted (fun r' hr => h r' hr)
end
section
variable (sym : Tk → (List UInt8 × List UInt8) × Int)
/-- What is asked of a symbol: its token stands for it. -/
def SymOf (p m : List UInt8) : Prop := ∀ t : Tk, t.key = (6, kp p m, m, []) → sym t = ((p, m), 0)
def numT' (t : Tk) : Rat := quo t.txt t.den
theorem tkO_pos : ∀ o : Ob, 1 ≤ (tkO kp o).length := by
 intro o
 cases o with
 | num q => simp [tkO]
 | str s => simp [tkO]
 | sym p n => simp [tkO]
 | cons a d =>
  cases d with
  | cons x e => unfold tkO; split <;> simp
  | num q => simp [tkO]
  | str s => simp [tkO]
  | sym p n => simp [tkO]
theorem key_one {k : Key} {ts : List Tk} (h : ts.map Tk.key = [k]) : ∃ t, ts = [t] ∧ t.key = k := by
 cases ts with
 | nil => cases h
 | cons t ts =>
  simp only [List.map_cons, List.cons.injEq, List.map_eq_nil_iff] at h
  obtain ⟨h1, rfl⟩ := h
  exact ⟨t, rfl, h1⟩
theorem key_cons {k : Key} {ks : List Key} {ts : List Tk} (h : ts.map Tk.key = k :: ks) : ∃ t us, ts = t :: us ∧ t.key = k ∧ us.map Tk.key = ks := by
 cases ts with
 | nil => cases h
 | cons t ts =>
  simp only [List.map_cons, List.cons.injEq] at h
  exact ⟨t, ts, rfl, h.1, h.2⟩
theorem key_app {ks js : List Key} {ts : List Tk} (h : ts.map Tk.key = ks ++ js) : ∃ us vs, ts = us ++ vs ∧ us.map Tk.key = ks ∧ vs.map Tk.key = js := by
 rw [List.map_eq_append_iff] at h
 exact h
theorem Tk.key_k {t : Tk} {k : Int} {a b c : List UInt8} (h : t.key = (k, a, b, c)) : t.k = k ∧ t.pkg = a ∧ t.txt = b ∧ t.den = c := by
 unfold Tk.key at h
 simp only [Prod.mk.injEq] at h
 exact h
/-- The first token of an object is no closing bracket and no dot. -/
theorem tkO_head {o : Ob} {t : Tk} {ts : List Tk} (h : (t :: ts).map Tk.key = tkO kp o) : t.k ≠ 2 ∧ t.k ≠ 3 ∧ t.k ≠ 0 := by
 have key : ∀ (k : Key) (ks : List Key), (t :: ts).map Tk.key = k :: ks → t.k = k.1 := fun k ks e => by
  simp only [List.map_cons, List.cons.injEq] at e
  exact congrArg Prod.fst e.1
 cases o with
 | num q => unfold tkO at h; have := key _ _ h; simp only at this; omega
 | str s => unfold tkO at h; have := key _ _ h; simp only at this; omega
 | sym p n => unfold tkO at h; have := key _ _ h; simp only at this; omega
 | cons a d =>
  cases d with
  | cons x e =>
   unfold tkO at h
   split at h
   · have := key _ _ h; simp only at this; omega
   · have := key _ _ h; simp only at this; omega
  | num q => unfold tkO at h; have := key _ _ h; simp only at this; omega
  | str s => unfold tkO at h; have := key _ _ h; simp only at this; omega
  | sym p n => unfold tkO at h; have := key _ _ h; simp only at this; omega
theorem consL_snoc (acc : List Ob) (a d : Ob) : consL (acc ++ [a]) d = consL acc (.cons a d) := by
 unfold consL
 rw [List.foldr_append]
 rfl
/-- An atom. -/
theorem par_num {f : Nat} {d : Int} {q : Rat} {t : Tk} {us : List Tk} (h : t.key = (5, [], LA (nt q), LA (dt q))) : parF sym numT' (f + 1) d (t :: us) = .ok (.num q) us := by
 obtain ⟨h1, _, h3, h4⟩ := Tk.key_k h
 rw [parF, if_neg (by omega), if_pos h1]
 unfold numT'
 rw [h3, h4, quo_self]
theorem par_str {f : Nat} {d : Int} {s : List UInt8} {t : Tk} {us : List Tk} (h : t.key = (7, [], s, [])) : parF sym numT' (f + 1) d (t :: us) = .ok (.str s) us := by
 obtain ⟨h1, _, h3, h4⟩ := Tk.key_k h
 rw [parF, if_neg (by omega), if_neg (by omega), if_neg (by omega), if_pos h1, h3]
theorem par_sym {f : Nat} {d : Int} {p m : List UInt8} {t : Tk} {us : List Tk} (hs : SymOf kp sym p m) (h : t.key = (6, kp p m, m, [])) : parF sym numT' (f + 1) d (t :: us) = .ok (.sym p m) us := by
 obtain ⟨h1, _, h3, h4⟩ := Tk.key_k h
 rw [parF, if_neg (by omega), if_neg (by omega), if_pos h1, hs t h, if_pos rfl]
/-- Behind a dot. -/
theorem lis_dot {f : Nat} {d : Int} {acc : List Ob} {o : Ob} {t u v : Tk} {us : List Tk} (hacc : acc ≠ []) (h3 : t.k = 3) (h2 : v.k = 2) (h : parF sym numT' f d (u :: v :: us) = .ok o (v :: us)) :
 lisF sym numT' (f + 1) d acc (t :: u :: v :: us) = .ok (consL acc o) us := by
 rw [lisF, if_neg (by omega), if_pos ⟨h3, hacc⟩, h]
 simp only
 rw [if_pos h2]
end
end
section
variable (nm kp : List UInt8 → List UInt8 → List UInt8) (sym : Tk → (List UInt8 × List UInt8) × Int)
end
theorem cutS (x y : ByteArray) (b : Bool) (a c : Value) (w : World) (h : Calls Tryz.prog 294 #[a, c] w (Sy.QuietY w (.tuple #[.string x, .string y, .bool b]))) : Calls Tryz.prog 273 #[a, c] w (Sy.QuietY w (.tuple #[.string x, .string y, .bool b])) := by
 have HH := qh9 h
 clear h
 go_enter Tryz.func273, Tryz.ntmps273
 go_wp2_with fail
 refine HH.out.mono ?_
 rintro e w1 ⟨rfl, hq⟩
 have HQ := qh9 hq
 clear hq
 go_wp2
 exact bodyPost_ret (results_tmp3 rfl _ _ _) rfl ⟨rfl, HQ.out⟩
theorem afterM_eq (l : List UInt8) : Lib.trimPrefix l [45] = afterM l := by
 cases l with
 | nil => rfl
 | cons c l =>
  by_cases h : c = 45
  · subst h; rfl
  · have e1 : afterM (c :: l) = c :: l := by
     unfold afterM
     split
     · rename_i heq; injection heq with heq _; exact absurd heq h
     · rfl
    rw [e1]
    have e2 : ([45] : List UInt8).isPrefixOf (c :: l) = false := by
     show (((45 : UInt8) == c) && true) = false
     rw [beq_eq_false_iff_ne.2 (fun e => h e.symm)]; rfl
    unfold Lib.trimPrefix
    first | (rw [if_neg (by rw [e2]; simp)]) | (simp [Lib.hasPrefix, e2])
theorem isM_eq (l : List UInt8) : Lib.hasPrefix l [45] = isM l := by
 cases l with
 | nil => rfl
 | cons c l =>
  by_cases h : c = 45
  · subst h; rfl
  · have e1 : isM (c :: l) = false := by
     unfold isM
     split
     · rename_i heq; injection heq with heq _; exact absurd heq h
     · rfl
    rw [e1]
    show (((45 : UInt8) == c) && true) = false
    rw [beq_eq_false_iff_ne.2 (fun e => h e.symm)]; rfl
theorem afterM_len (l : List UInt8) : (afterM l).length ≤ l.length := by
 unfold afterM
 split
 · simp
 · exact Nat.le_refl _
def cutA (l : List UInt8) : List UInt8 × List UInt8 := if l.contains 47 then (l.takeWhile (· != 47), (l.dropWhile (· != 47)).tail) else (l, [])
theorem below_q5 {B : Nat} {w w1 w2 : World} (h : Below B w w1) (hq : ∃ n, w2 = w1.drewN n) : Below B w w2 := by
 obtain ⟨n, rfl⟩ := hq
 exact h.trans ⟨rfl, rfl, rfl, Nat.le_refl _, fun _ _ => rfl⟩
def OutN (w : World) (R : Option (Bool × List UInt8 × List UInt8)) (e : Ending) (w' : World) : Prop := Below w.heap.size w w' ∧ match R with
 | some (b, x, y) => e = .returned (.tuple #[.string (BA (negS b (decL x))), .string (BA (decL y)), .bool true])
 | none => e = .returned (.tuple #[.string ⟨#[]⟩, .string ⟨#[]⟩, .bool false])
theorem decL_len (l : List UInt8) : (decL l).length ≤ max 1 l.length := by
 unfold decL
 split
 · simp; omega
 · have := (List.dropWhile_sublist (fun x : UInt8 => x == 48) (l := l)).length_le
   omega
theorem fractionP (l : List UInt8) (hl : l.length ≤ 6000) (w : World) : Calls Tryz.prog 244 #[.string (BA l)] w (OutN w (numL l)) := by
 have HCP : Hid (∀ w, Calls Tryz.prog 272 #[.string (BA l), .string ⟨#[45]⟩] w fun e w' => e = .returned (.tuple #[.string (BA (afterM l)), .bool (isM l)]) ∧ w' = w) := fun w => by
  rw [← afterM_eq, ← isM_eq]
  exact Tryz.strings_CutPrefix (BA l) ⟨#[45]⟩ w
 have HCU : Hid (∀ w, Calls Tryz.prog 273 #[.string (BA (afterM l)), .string ⟨#[47]⟩] w (Sy.QuietY w (.tuple #[.string (BA (cutA (afterM l)).1), .string (BA (cutA (afterM l)).2), .bool ((afterM l).contains 47)]))) := fun w => by
  refine cutS _ _ _ _ _ w ((cutP (afterM l) (Nat.le_trans (afterM_len l) hl) w).mono fun e w' h => ?_)
  unfold cutA
  cases hc : (afterM l).contains 47 <;> rw [hc] at h <;> exact h
 have hx : (cutL (afterM l)).1.length ≤ 6000 ∧ (cutL (afterM l)).2.length ≤ 6000 := by
  have h1 := afterM_len l
  unfold cutL
  split
  · have h2 := (List.takeWhile_sublist (fun x : UInt8 => x != 47) (l := afterM l)).length_le
    have h3 := (List.dropWhile_sublist (fun x : UInt8 => x != 47) (l := afterM l)).length_le
    simp only [List.length_tail]
    omega
  · simp; omega
 have HDX := qh9 (isDigitsP _ hx.1)
 have HDY := qh9 (isDigitsP _ hx.2)
 have hcut : cutL (afterM l) = if (afterM l).contains 47 then cutA (afterM l) else ((cutA (afterM l)).1, [49]) := by
  unfold cutL cutA
  cases (afterM l).contains 47 <;> rfl
 have HLX := qh9 (Nat.le_trans (decL_len (cutL (afterM l)).1) (show max 1 (cutL (afterM l)).1.length ≤ 6000 by omega))
 unfold numL
 rw [hcut] at HDX HDY HLX ⊢
 generalize afterM l = m at HCP HCU HDX HDY HLX ⊢
 generalize cutA m = xy at HCU HDX HDY HLX ⊢
 obtain ⟨x, y⟩ := xy
 clear hcut hx
 have HB := qh9 (Below.refl w.heap.size w)
 cases hc : m.contains 47
 all_goals
  rw [hc] at HDX HDY HLX HCU
  simp only [if_true, if_false, Bool.false_eq_true] at HDX HDY HCU HLX ⊢
 · cases hdx : isDigL x with
   | false =>
    rw [if_neg (by simp)]
    have HX := qh9 hdx
    clear hdx hc
    go_enter Tryz.func244, Tryz.ntmps244
    go_wp2_with fail
    refine (HCP.out _).mono ?_
    rintro e w1 ⟨rfl, rfl⟩
    go_wp2_with fail
    refine (HCU.out _).mono ?_
    rintro e w2 ⟨rfl, hq⟩
    replace HB := qh9 (below_q5 HB.out hq)
    clear hq
    go_wp2_with fail
    refine (HDX.out _).mono ?_
    rintro e w3 ⟨rfl, hb⟩
    rw [HX.out]
    replace HB := qh9 (chain5 HB.out hb)
    clear hb
    go_wp2
    exact bodyPost_ret (results_tmp3 rfl _ _ _) rfl ⟨HB.out, rfl⟩
   | true =>
    have HX := qh9 hdx
    cases hdy : isDigL [49] with
    | false =>
     rw [if_neg (by simp)]
     have HY := qh9 hdy
     clear hdx hdy hc
     go_enter Tryz.func244, Tryz.ntmps244
     go_wp2_with fail
     refine (HCP.out _).mono ?_
     rintro e w1 ⟨rfl, rfl⟩
     go_wp2_with fail
     refine (HCU.out _).mono ?_
     rintro e w2 ⟨rfl, hq⟩
     replace HB := qh9 (below_q5 HB.out hq)
     clear hq
     go_wp2_with fail
     refine (HDX.out _).mono ?_
     rintro e w3 ⟨rfl, hb⟩
     rw [HX.out]
     replace HB := qh9 (chain5 HB.out hb)
     clear hb
     go_wp2_with fail
     refine (HDY.out _).mono ?_
     rintro e w4 ⟨rfl, hb⟩
     rw [HY.out]
     replace HB := qh9 (chain5 HB.out hb)
     clear hb
     go_wp2
     exact bodyPost_ret (results_tmp3 rfl _ _ _) rfl ⟨HB.out, rfl⟩
    | true =>
     rw [if_pos (by simp)]
     have HY := qh9 hdy
     clear hdx hdy hc
     generalize hbm : isM l = bm at HCP ⊢; clear hbm; cases bm with
     | false =>
      go_enter Tryz.func244, Tryz.ntmps244
      go_wp2_with fail
      refine (HCP.out _).mono ?_
      rintro e w1 ⟨rfl, rfl⟩
      go_wp2_with fail
      refine (HCU.out _).mono ?_
      rintro e w2 ⟨rfl, hq⟩
      replace HB := qh9 (below_q5 HB.out hq)
      clear hq
      go_wp2_with fail
      refine (HDX.out _).mono ?_
      rintro e w3 ⟨rfl, hb⟩
      rw [HX.out]
      replace HB := qh9 (chain5 HB.out hb)
      clear hb
      go_wp2_with fail
      refine (HDY.out _).mono ?_
      rintro e w4 ⟨rfl, hb⟩
      rw [HY.out]
      replace HB := qh9 (chain5 HB.out hb)
      clear hb
      go_wp2_with fail
      refine (decimalP x _).mono ?_
      rintro e w5 ⟨rfl, rfl⟩
      go_wp2_with fail
      refine (decimalP [49] _).mono ?_
      rintro e w6 ⟨rfl, rfl⟩
      go_wp2
      exact bodyPost_ret (results_tmp3 rfl _ _ _) rfl ⟨HB.out, rfl⟩
     | true =>
      go_enter Tryz.func244, Tryz.ntmps244
      go_wp2_with fail
      refine (HCP.out _).mono ?_
      rintro e w1 ⟨rfl, rfl⟩
      go_wp2_with fail
      refine (HCU.out _).mono ?_
      rintro e w2 ⟨rfl, hq⟩
      replace HB := qh9 (below_q5 HB.out hq)
      clear hq
      go_wp2_with fail
      refine (HDX.out _).mono ?_
      rintro e w3 ⟨rfl, hb⟩
      rw [HX.out]
      replace HB := qh9 (chain5 HB.out hb)
      clear hb
      go_wp2_with fail
      refine (HDY.out _).mono ?_
      rintro e w4 ⟨rfl, hb⟩
      rw [HY.out]
      replace HB := qh9 (chain5 HB.out hb)
      clear hb
      go_wp2_with fail
      refine (decimalP x _).mono ?_
      rintro e w5 ⟨rfl, rfl⟩
      go_wp2_with fail
      refine (negate_any (BA (decL x)) _ (by have := ba_len (decL x); have := HLX.out; omega)).mono ?_
      rintro e w6 ⟨rfl, hb⟩
      replace HB := qh9 (chain5 HB.out hb)
      clear hb
      go_wp2_with fail
      refine (decimalP [49] _).mono ?_
      rintro e w7 ⟨rfl, rfl⟩
      go_wp2
      exact bodyPost_ret (results_tmp3 rfl _ _ _) rfl ⟨HB.out, rfl⟩
 · cases hdx : isDigL x with
   | false =>
    rw [if_neg (by simp)]
    have HX := qh9 hdx
    clear hdx hc
    go_enter Tryz.func244, Tryz.ntmps244
    go_wp2_with fail
    refine (HCP.out _).mono ?_
    rintro e w1 ⟨rfl, rfl⟩
    go_wp2_with fail
    refine (HCU.out _).mono ?_
    rintro e w2 ⟨rfl, hq⟩
    replace HB := qh9 (below_q5 HB.out hq)
    clear hq
    go_wp2_with fail
    refine (HDX.out _).mono ?_
    rintro e w3 ⟨rfl, hb⟩
    rw [HX.out]
    replace HB := qh9 (chain5 HB.out hb)
    clear hb
    go_wp2
    exact bodyPost_ret (results_tmp3 rfl _ _ _) rfl ⟨HB.out, rfl⟩
   | true =>
    have HX := qh9 hdx
    cases hdy : isDigL y with
    | false =>
     rw [if_neg (by simp)]
     have HY := qh9 hdy
     clear hdx hdy hc
     go_enter Tryz.func244, Tryz.ntmps244
     go_wp2_with fail
     refine (HCP.out _).mono ?_
     rintro e w1 ⟨rfl, rfl⟩
     go_wp2_with fail
     refine (HCU.out _).mono ?_
     rintro e w2 ⟨rfl, hq⟩
     replace HB := qh9 (below_q5 HB.out hq)
     clear hq
     go_wp2_with fail
     refine (HDX.out _).mono ?_
     rintro e w3 ⟨rfl, hb⟩
     rw [HX.out]
     replace HB := qh9 (chain5 HB.out hb)
     clear hb
     go_wp2_with fail
     refine (HDY.out _).mono ?_
     rintro e w4 ⟨rfl, hb⟩
     rw [HY.out]
     replace HB := qh9 (chain5 HB.out hb)
     clear hb
     go_wp2
     exact bodyPost_ret (results_tmp3 rfl _ _ _) rfl ⟨HB.out, rfl⟩
    | true =>
     rw [if_pos (by simp)]
     have HY := qh9 hdy
     clear hdx hdy hc
     generalize hbm : isM l = bm at HCP ⊢; clear hbm; cases bm with
     | false =>
      go_enter Tryz.func244, Tryz.ntmps244
      go_wp2_with fail
      refine (HCP.out _).mono ?_
      rintro e w1 ⟨rfl, rfl⟩
      go_wp2_with fail
      refine (HCU.out _).mono ?_
      rintro e w2 ⟨rfl, hq⟩
      replace HB := qh9 (below_q5 HB.out hq)
      clear hq
      go_wp2_with fail
      refine (HDX.out _).mono ?_
      rintro e w3 ⟨rfl, hb⟩
      rw [HX.out]
      replace HB := qh9 (chain5 HB.out hb)
      clear hb
      go_wp2_with fail
      refine (HDY.out _).mono ?_
      rintro e w4 ⟨rfl, hb⟩
      rw [HY.out]
      replace HB := qh9 (chain5 HB.out hb)
      clear hb
      go_wp2_with fail
      refine (decimalP x _).mono ?_
      rintro e w5 ⟨rfl, rfl⟩
      go_wp2_with fail
      refine (decimalP y _).mono ?_
      rintro e w6 ⟨rfl, rfl⟩
      go_wp2
      exact bodyPost_ret (results_tmp3 rfl _ _ _) rfl ⟨HB.out, rfl⟩
     | true =>
      go_enter Tryz.func244, Tryz.ntmps244
      go_wp2_with fail
      refine (HCP.out _).mono ?_
      rintro e w1 ⟨rfl, rfl⟩
      go_wp2_with fail
      refine (HCU.out _).mono ?_
      rintro e w2 ⟨rfl, hq⟩
      replace HB := qh9 (below_q5 HB.out hq)
      clear hq
      go_wp2_with fail
      refine (HDX.out _).mono ?_
      rintro e w3 ⟨rfl, hb⟩
      rw [HX.out]
      replace HB := qh9 (chain5 HB.out hb)
      clear hb
      go_wp2_with fail
      refine (HDY.out _).mono ?_
      rintro e w4 ⟨rfl, hb⟩
      rw [HY.out]
      replace HB := qh9 (chain5 HB.out hb)
      clear hb
      go_wp2_with fail
      refine (decimalP x _).mono ?_
      rintro e w5 ⟨rfl, rfl⟩
      go_wp2_with fail
      refine (negate_any (BA (decL x)) _ (by have := ba_len (decL x); have := HLX.out; omega)).mono ?_
      rintro e w6 ⟨rfl, hb⟩
      replace HB := qh9 (chain5 HB.out hb)
      clear hb
      go_wp2_with fail
      refine (decimalP y _).mono ?_
      rintro e w7 ⟨rfl, rfl⟩
      go_wp2
      exact bodyPost_ret (results_tmp3 rfl _ _ _) rfl ⟨HB.out, rfl⟩
def WfT : List Tk → Prop
 | [] => False
 | t :: r => if t.k = 0 then r = [] else WfT r
theorem WfT.ne {l : List Tk} (h : WfT l) : l ≠ [] := by rintro rfl; exact h
theorem WfT.tail {t : Tk} {r : List Tk} (h : WfT (t :: r)) (hk : t.k ≠ 0) : WfT r := by
 unfold WfT at h
 rwa [if_neg hk] at h
def accN (l : List Ob) : Nat := (l.map fun o => o.nodes + 1).sum
theorem accN_snoc (l : List Ob) (o : Ob) : accN (l ++ [o]) = accN l + (o.nodes + 1) := by unfold accN; simp
theorem consL_nodes : ∀ (l : List Ob) (o : Ob), (consL l o).nodes = accN l + o.nodes
 | [], o => by show o.nodes = 0 + o.nodes; omega
 | a :: l, o => by
  have := consL_nodes l o
  show 1 + a.nodes + (consL l o).nodes = _
  rw [this]
  have h : accN (a :: l) = (a.nodes + 1) + accN l := by unfold accN; simp
  rw [h]
  omega
section
variable (sym : Tk → (List UInt8 × List UInt8) × Int) (num : Tk → Rat)
def PrOk (n : Nat) (ts : List Tk) : Pr → Prop
 | .ok o r => WfT r ∧ r.length < ts.length ∧ o.nodes + n + 4 * r.length ≤ 4 * ts.length
 | _ => True
theorem par_ok : ∀ (f : Nat), (∀ (d : Int) (ts : List Tk), WfT ts → PrOk 1 ts (parF sym num f d ts)) ∧
 (∀ (d : Int) (acc : List Ob) (ts : List Tk), WfT ts → ∀ o r, lisF sym num f d acc ts = .ok o r → WfT r ∧ r.length < ts.length ∧ o.nodes + 4 * r.length + 3 ≤ accN acc + 4 * ts.length)
 | 0 => ⟨fun d ts h => by unfold parF; trivial, fun d acc ts h o r e => by unfold lisF at e; cases e⟩
 | f + 1 => by
  obtain ⟨ih1, ih2⟩ := par_ok f
  constructor
  · intro d ts h
    cases ts with
    | nil => exact absurd rfl h.ne
    | cons t ts =>
     rw [parF]
     by_cases k0 : t.k = 0
     · rw [if_pos k0]; trivial
     rw [if_neg k0]
     have hw := h.tail k0
     by_cases k5 : t.k = 5
     · rw [if_pos k5]
       exact ⟨hw, by simp, by simp only [Ob.nodes, List.length_cons]; omega⟩
     rw [if_neg k5]
     by_cases k6 : t.k = 6
     · rw [if_pos k6]
       split
       · exact ⟨hw, by simp, by simp only [Ob.nodes, List.length_cons]; omega⟩
       · trivial
     rw [if_neg k6]
     by_cases k7 : t.k = 7
     · rw [if_pos k7]
       exact ⟨hw, by simp, by simp only [Ob.nodes, List.length_cons]; omega⟩
     rw [if_neg k7]
     by_cases k2 : t.k = 2 ∨ t.k = 3
     · rw [if_pos k2]; trivial
     rw [if_neg k2]
     by_cases hd : 200 < d
     · rw [if_pos hd]; trivial
     rw [if_neg hd]
     by_cases k4 : t.k = 4
     · rw [if_pos k4]
       have := ih1 (d + 1) ts hw
       cases hp : parF sym num f (d + 1) ts with
       | ok o r =>
        rw [hp] at this
        obtain ⟨a, b, c⟩ := this
        refine ⟨a, by simp only [List.length_cons]; omega, ?_⟩
        show (1 + quoteO.nodes + (1 + o.nodes + Ob.nil.nodes)) + 1 + 4 * r.length ≤ _
        simp only [quoteO, Ob.nil, Ob.nodes, List.length_cons]
        omega
       | bad e p => trivial
       | out => trivial
     rw [if_neg k4]
     cases hp : lisF sym num f (d + 1) [] ts with
     | ok o r =>
      obtain ⟨a, b, c⟩ := ih2 _ _ _ hw _ _ hp
      refine ⟨a, by simp only [List.length_cons]; omega, ?_⟩
      simp only [accN, List.map_nil, List.sum_nil, List.length_cons] at c ⊢
      omega
     | bad e p => trivial
     | out => trivial
  · intro d acc ts h o r e
    cases ts with
    | nil => exact absurd rfl h.ne
    | cons t ts =>
     rw [lisF] at e
     by_cases k2 : t.k = 2
     · rw [if_pos k2] at e
       injection e with e1 e2
       subst e1 e2
       refine ⟨h.tail (by omega), by simp, ?_⟩
       rw [consL_nodes]
       simp only [Ob.nil, Ob.nodes, List.length_cons]
       omega
     rw [if_neg k2] at e
     by_cases k3 : t.k = 3 ∧ acc ≠ []
     · rw [if_pos k3] at e
       have hw := h.tail (by omega)
       have := ih1 d ts hw
       cases hp : parF sym num f d ts with
       | ok x s =>
        rw [hp] at this e
        obtain ⟨a, b, c⟩ := this
        cases s with
        | nil => exact absurd rfl a.ne
        | cons u s =>
         by_cases u2 : u.k = 2
         · simp only [if_pos u2] at e
           injection e with e1 e2
           subst e1 e2
           refine ⟨a.tail (by omega), by simp only [List.length_cons] at b ⊢; omega, ?_⟩
           rw [consL_nodes]
           simp only [List.length_cons] at c ⊢
           omega
         · simp only [if_neg u2] at e
           split at e <;> cases e
       | bad e' p => rw [hp] at e; cases e
       | out => rw [hp] at e; cases e
     rw [if_neg k3] at e
     have := ih1 d (t :: ts) h
     cases hp : parF sym num f d (t :: ts) with
     | ok x s =>
      rw [hp] at this e
      obtain ⟨a, b, c⟩ := this
      obtain ⟨a', b', c'⟩ := ih2 _ _ _ a _ _ e
      refine ⟨a', by omega, ?_⟩
      rw [accN_snoc] at c'
      omega
     | bad e' p => rw [hp] at e; cases e
     | out => rw [hp] at e; cases e
theorem par_in : ∀ (f : Nat), (∀ (d : Int) (ts : List Tk), WfT ts → 2 * ts.length + 1 ≤ f → parF sym num f d ts ≠ .out) ∧
 (∀ (d : Int) (acc : List Ob) (ts : List Tk), WfT ts → 2 * ts.length + 2 ≤ f → lisF sym num f d acc ts ≠ .out)
 | 0 => ⟨fun d ts h hf => by omega, fun d acc ts h hf => by omega⟩
 | f + 1 => by
  obtain ⟨ih1, ih2⟩ := par_in f
  constructor
  · intro d ts h hf
    cases ts with
    | nil => exact absurd rfl h.ne
    | cons t ts =>
     simp only [List.length_cons] at hf
     rw [parF]
     by_cases k0 : t.k = 0
     · rw [if_pos k0]; intro e; cases e
     rw [if_neg k0]
     have hw := h.tail k0
     have q1 := ih1 (d + 1) ts hw (by omega)
     have q2 := ih2 (d + 1) [] ts hw (by omega)
     repeat' split
     all_goals first | (intro e; cases e; done) | assumption | skip
     all_goals (intro e; rename_i hx _; first | exact hx _ _ e | skip)
     all_goals first | (exact q1 (by assumption)) | (exact q1 (e ▸ by assumption)) | simp_all
  · intro d acc ts h hf
    cases ts with
    | nil => exact absurd rfl h.ne
    | cons t ts =>
     simp only [List.length_cons] at hf
     rw [lisF]
     by_cases k2 : t.k = 2
     · rw [if_pos k2]; intro e; cases e
     rw [if_neg k2]
     by_cases k3 : t.k = 3 ∧ acc ≠ []
     · rw [if_pos k3]
       have hw := h.tail (by omega)
       have := (par_ok sym num f).1 d ts hw
       have q := ih1 d ts hw (by omega)
       cases hp : parF sym num f d ts with
       | ok x s =>
        rw [hp] at this
        cases s with
        | nil => exact absurd rfl this.1.ne
        | cons u s =>
         show (if u.k = 2 then Pr.ok (consL acc x) s else if u.k = 0 then .bad 11 u.p else .bad 12 u.p) ≠ .out
         split
         · intro e; cases e
         · split <;> (intro e; cases e)
       | bad e' p => intro e; cases e
       | out => exact absurd hp q
     rw [if_neg k3]
     have := (par_ok sym num f).1 d (t :: ts) h
     have q := ih1 d (t :: ts) h (by simp only [List.length_cons]; omega)
     cases hp : parF sym num f d (t :: ts) with
     | ok x s =>
      rw [hp] at this
      simp only [PrOk, List.length_cons] at this
      exact ih2 _ _ _ this.1 (by omega)
     | bad e' p => intro e; cases e
     | out => exact absurd hp q
end

section
variable (ok : List UInt8 → Bool) (num : Bool → List UInt8 → List UInt8 → List UInt8 × List UInt8) (size : List UInt8 → Nat)
theorem symT_k {p : Int} {pkg name r : List UInt8} {t : Tk} {r' : List UInt8} (h : symT ok p pkg name r = .ok t r') : t = ⟨6, p, pkg, name, []⟩ := by
 unfold symT at h
 repeat' split at h
 all_goals simp at h
 exact h.1.symm
theorem numT_k {p : Int} {b : Bool} {x y r : List UInt8} {t : Tk} {r' : List UInt8} (h : numT num size p b x y r = .ok t r') :
 t = ⟨5, p, [], (num b (decL x) (decL y)).1, (num b (decL x) (decL y)).2⟩ ∧ size t.txt ≤ 100 ∧ size t.den ≤ 100 := by
 unfold numT at h
 repeat' split at h
 all_goals simp at h
 rename_i h1 h2
 rw [← h.1]
 exact ⟨rfl, by show size (num b (decL x) (decL y)).1 ≤ 100; omega, by show size (num b (decL x) (decL y)).2 ≤ 100; omega⟩
def TkOk (P : List UInt8 → List UInt8 → Prop) (t : Tk) : Prop := t.k ≠ 0 ∧ t.k ≤ 7 ∧ (t.k = 5 → P t.txt t.den) ∧ (t.k ≤ 7)
theorem one_ok {P : List UInt8 → List UInt8 → Prop} (hP : ∀ b x y, size (num b x y).1 ≤ 100 → size (num b x y).2 ≤ 100 → P (num b x y).1 (num b x y).2) {n : Nat} {c : UInt8} {l : List UInt8} {t : Tk} {r : List UInt8} (h : oneL ok num size n c l = .ok t r) : TkOk P t := by
 unfold oneL at h
 split at h
 · simp at h; rw [← h.1]; exact ⟨by simp, by simp, by simp, by simp⟩
 split at h
 · simp at h; rw [← h.1]; exact ⟨by simp, by simp, by simp, by simp⟩
 split at h
 · simp at h; rw [← h.1]; exact ⟨by simp, by simp, by simp, by simp⟩
 split at h
 · split at h
   · simp at h
   · split at h
     · simp at h
     · simp at h; rw [← h.1]; exact ⟨by simp, by simp, by simp, by simp⟩
 split at h
 · split at h
   · simp at h
   · rw [symT_k ok h]; exact ⟨by simp, by simp, by simp, by simp⟩
 split at h
 · unfold wordT at h
   split at h
   · split at h
     · simp at h
     · rw [symT_k ok h]; exact ⟨by simp, by simp, by simp, by simp⟩
   · split at h
     · simp at h; rw [← h.1]; exact ⟨by simp, by simp, by simp, by simp⟩
     · split at h
       · obtain ⟨h1, h2, h3⟩ := numT_k num size h
         rw [h1] at h2 h3 ⊢
         exact ⟨by simp, by simp, fun _ => hP _ _ _ h2 h3, by simp⟩
       · rw [symT_k ok h]; exact ⟨by simp, by simp, by simp, by simp⟩
 · simp at h
theorem toks_wf {P : List UInt8 → List UInt8 → Prop} (hP : ∀ b x y, size (num b x y).1 ≤ 100 → size (num b x y).2 ≤ 100 → P (num b x y).1 (num b x y).2) (n : Nat) :
 ∀ (f : Nat) (l : List UInt8) (ts : List Tk), toksF ok num size n f l = .ok ts → WfT ts ∧ ts.length ≤ l.length + 1 ∧ (∀ t ∈ ts, t.k ≤ 7 ∧ (t.k = 5 → P t.txt t.den))
 | 0, l, ts, h => by simp [toksF] at h
 | f + 1, l, ts, h => by
  rw [toksF] at h
  split at h
  · simp at h
  · simp at h; subst h; exact ⟨by simp [WfT], by simp, by simp⟩
  · rename_i c l' hs
    have h1 := skipL_le hs
    simp only [List.length_cons] at h1
    split at h
    · simp at h
    · rename_i t r ho
      have h2 := oneL_le _ _ _ ho
      have h3 := one_ok ok num size hP ho
      split at h
      · rename_i ts' ht
        simp at h
        subst h
        obtain ⟨a, b, d⟩ := toks_wf hP n f r ts' ht
        refine ⟨?_, by simp only [List.length_cons]; omega, ?_⟩
        · unfold WfT; rw [if_neg h3.1]; exact a
        · intro u hu
          rcases List.mem_cons.1 hu with rfl | hu
          · exact ⟨h3.2.1, h3.2.2.1⟩
          · exact d u hu
      · simp at h
end
section
variable (sym : Tk → (List UInt8 × List UInt8) × Int) (num : Tk → Rat)
theorem allF_cons (f : Nat) (acc : List (Ob × Int)) (t : Tk) (ts : List Tk) : allF sym num (f + 1) acc (t :: ts) =
 if t.k = 0 then (.ok acc, true) else
 if acc.length = 100 ∧ t.k ≠ 2 ∧ t.k ≠ 3 then (.error (2, t.p), true) else
 match parF sym num (2 * (ts.length + 1) + 2) 0 (t :: ts) with
 | .out => (.error (0, 0), false)
 | .bad e p => (.error (e, p), true)
 | .ok o r => if 3000 < o.nodes then (.error (2, t.p), true) else allF sym num f (acc ++ [(o, t.p)]) r := rfl
theorem all_true : ∀ (f : Nat) (acc : List (Ob × Int)) (ts : List Tk), WfT ts → ts.length ≤ f → (allF sym num f acc ts).2 = true
 | 0, acc, ts, h, hf => by
  cases ts with
  | nil => exact absurd rfl h.ne
  | cons t ts => simp at hf
 | f + 1, acc, ts, h, hf => by
  cases ts with
  | nil => exact absurd rfl h.ne
  | cons t ts =>
   rw [allF_cons]
   split
   · rfl
   split
   · rfl
   have h1 := (par_ok sym num (2 * (ts.length + 1) + 2)).1 0 _ h
   have h2 := (par_in sym num (2 * (ts.length + 1) + 2)).1 0 _ h (by simp only [List.length_cons]; omega)
   cases hp : parF sym num (2 * (ts.length + 1) + 2) 0 (t :: ts) with
   | ok o r =>
    rw [hp] at h1
    obtain ⟨a, b, c⟩ := h1
    show (if 3000 < o.nodes then (Except.error (2, t.p), true) else allF sym num f (acc ++ [(o, t.p)]) r).2 = true
    split
    · rfl
    · exact all_true f _ r a (by simp only [List.length_cons] at b hf; omega)
   | bad e p => rfl
   | out => exact absurd hp h2
def readL (ts : List Tk) : Except (Int × Int) (List (Ob × Int)) := (allF sym num ts.length [] ts).1
theorem readL_eq (ts : List Tk) (h : WfT ts) : allF sym num ts.length [] ts = (readL sym num ts, true) := by
 have := all_true sym num ts.length [] ts h (Nat.le_refl _)
 unfold readL
 rw [← this]
theorem allF_app : ∀ (f : Nat) (acc l : List (Ob × Int)) (ts : List Tk), allF sym num f acc ts = (.ok l, true) → ∃ l', l = acc ++ l'
 | 0, acc, l, ts, h => by simp [allF] at h
 | f + 1, acc, l, [], h => by simp [allF] at h
 | f + 1, acc, l, t :: ts, h => by
  rw [allF_cons] at h
  split at h
  · simp at h; exact ⟨[], by simp [h]⟩
  split at h
  · simp at h
  split at h
  · simp at h
  · simp at h
  · split at h
    · simp at h
    · obtain ⟨l', hl⟩ := allF_app f _ l _ h
      exact ⟨_, by rw [hl, List.append_assoc]⟩
theorem objs_small {ts : List Tk} (hw : WfT ts) (hl : ts.length ≤ 700) (d : Int) {o : Ob} {r : List Tk} {f : Nat} (h : parF sym num f d ts = .ok o r) : o.nodes ≤ 2800 := by
 have h1 := (par_ok sym num f).1 d _ hw
 rw [h] at h1
 have := h1.2.2
 omega
end
theorem la_ext (s : ByteArray) (i j : Nat) : (s.extract i j).data.toList = ((LA s).drop i).take (j - i) := by
 unfold LA
 rw [ByteArray.data_extract]
 simp
theorem ext_snoc (s : ByteArray) {i j : Nat} (hi : i ≤ j) (hj : j < s.size) : (s.extract i (j + 1)).data.toList = (s.extract i j).data.toList ++ [s[j]] := by
 rw [la_ext, la_ext, show j + 1 - i = (j - i) + 1 by omega, List.take_add_one]
 congr 1
 rw [List.getElem?_drop, show i + (j - i) = j by omega, List.getElem?_eq_getElem (by rw [la_length]; exact hj)]
 rfl
theorem ext_nil (s : ByteArray) (i : Nat) : (s.extract i i).data.toList = [] := by rw [la_ext, Nat.sub_self, List.take_zero]
theorem ba_of {s : ByteArray} {l : List UInt8} (h : s.data.toList = l) : s = BA l := by subst h; rfl
theorem word_nil : wordL [] = [] := rfl
theorem rest_nil : restL [] = [] := rfl
theorem word_cons {c : UInt8} {l : List UInt8} (h : conB c = true) : wordL (c :: l) = c :: wordL l := by unfold wordL; rw [List.takeWhile_cons, if_pos h]
theorem rest_cons {c : UInt8} {l : List UInt8} (h : conB c = true) : restL (c :: l) = restL l := by unfold restL; rw [List.dropWhile_cons, if_pos h]
theorem word_not {c : UInt8} {l : List UInt8} (h : conB c = false) : wordL (c :: l) = [] := by unfold wordL; rw [List.takeWhile_cons, if_neg (by rw [h]; simp)]
theorem rest_not {c : UInt8} {l : List UInt8} (h : conB c = false) : restL (c :: l) = c :: l := by unfold restL; rw [List.dropWhile_cons, if_neg (by rw [h]; simp)]
def WoW (w wr : World) (g : Nat) (s : ByteArray) (i : Nat) (W R : List UInt8) (j : Nat) : Prop :=
 ScW w wr g s j ∧ (s.extract i j).data.toList ++ wordL ((LA s).drop j) = W ∧ restL ((LA s).drop j) = R
theorem WoW.done {w wr w1 : World} {g : Nat} {s : ByteArray} {i j : Nat} {W R : List UInt8} (hj : j ≤ s.size) (hE : ScW w wr g s j) (hW : (s.extract i j).data.toList ++ [] = W) (hR : (LA s).drop j = R) (hq : ∃ n, w1 = wr.drewN n) :
 RetR5 w g s R (.string (BA W)) (.returned (.string (s.extract i j))) w1 := by
 have h := hE.q hq
 refine ⟨j, hj, hR, ?_, h.1, h.2⟩
 rw [List.append_nil] at hW
 rw [ba_of hW]
theorem wordP (w : World) (g : Nat) (s : ByteArray) (i : Nat) (h : Scn w g s i) (hi : i ≤ s.size) (hs : s.size ≤ 6000) :
 Calls Tryz.prog 242 #[.pointer (some ⟨g, 0, none⟩)] w (RetR5 w g s (restL ((LA s).drop i)) (.string (BA (wordL ((LA s).drop i))))) := by
 obtain ⟨W, hW⟩ : ∃ W, wordL ((LA s).drop i) = W := ⟨_, rfl⟩
 obtain ⟨R, hR⟩ : ∃ R, restL ((LA s).drop i) = R := ⟨_, rfl⟩
 rw [hW, hR]
 have H0 : Hid (WoW w w g s i W R i) := ⟨ScW.start h, by rw [ext_nil]; exact hW, hR⟩
 have c1 := h.c1
 clear h hR hW
 go_enter Tryz.func242, Tryz.ntmps242
 go_wp2_with fail
 clear c1
 go_loopw [] (fun wr => ∃ (j : Nat), i ≤ j ∧ j ≤ s.size ∧ Hid (WoW w wr g s i W R j)) (fun wr => s.size + 1 - posW g wr)
 case atStart => exact ⟨i, Nat.le_refl _, hi, H0⟩
 case round =>
  clear H0
  obtain ⟨j, hij, hj, hE⟩ := hrel
  obtain ⟨wo, rfl⟩ : ∃ wo : World, wo = wr := ⟨_, rfl⟩
  obtain ⟨hE, hW, hR⟩ := hE.out
  have HP := qh9 hE.1.posW
  have HE := qh9 hE
  clear hE
  rcases la_cases s hj with ⟨rfl, hl⟩ | ⟨hlt, hl⟩
  · rw [hl, word_nil] at hW
    rw [hl, rest_nil, ← hl] at hR
    have HW := qh9 hW
    have HR := qh9 hR
    clear hW hR hl
    obtain ⟨j, hjs⟩ : ∃ j, j = s.size := ⟨_, rfl⟩
    go_wp2_with fail
    refine (endedP wo g s _ HE.out.1).mono ?_
    rintro e w1 ⟨rfl, hq⟩
    rw [eq_yes]
    replace HE := qh9 (HE.out.q hq)
    clear hq
    rw [← hjs] at HE HW HR hij
    replace hj : j ≤ s.size := Nat.le_of_eq hjs
    have HJ := qh9 hjs
    clear hjs
    have c0 := HE.out.1.c0
    have c1 := HE.out.1.c1
    have hb1 : (0 : Int) ≤ (i : Int) ∧ (i : Int) ≤ (j : Int) ∧ (j : Int) ≤ (s.size : Int) := by omega
    have hb2 : (0 : Int) ≤ (i : Int) := by omega
    have hb3 : (i : Int) ≤ (j : Int) := by omega
    have hb4 : (j : Int) ≤ (s.size : Int) := by omega
    go_wp2_with fail
    go_quiet (fail)
    go_wp2
    go_ret
    exact WoW.done hj HE.out HW.out HR.out ⟨nq, rfl⟩
  · have HN := qh9 (eq_no hlt)
    cases hc : conB s[j] with
    | true =>
     have HW : Hid ((s.extract i (j + 1)).data.toList ++ wordL ((LA s).drop (j + 1)) = W) := by
      show _ = _
      rw [ext_snoc s hij hlt, List.append_assoc, ← hW, hl, word_cons hc]
      rfl
     have HR : Hid (restL ((LA s).drop (j + 1)) = R) := by show _ = _; rw [← hR, hl, rest_cons hc]
     have HC := qh9 hc
     clear hW hR hl hc
     go_wp2_with fail
     refine (endedP wo g s _ HE.out.1).mono ?_
     rintro e w1 ⟨rfl, hq⟩
     rw [HN.out]
     replace HE := qh9 (HE.out.q hq)
     clear hq
     go_wp2_with fail
     refine (peekP w1 g s j HE.out.1 hlt).mono ?_
     rintro e w2 ⟨rfl, hq⟩
     replace HE := qh9 (HE.out.q hq)
     clear hq
     go_wp2_with fail
     refine (isConP s[j] w2).mono ?_
     rintro e w0 ⟨rfl, rfl⟩
     rw [HC.out]
     have c1 := HE.out.1.c1
     have cf := HE.out.1.fr
     go_wp2
     clear c1 cf
     go_roundw
     case rel => exact ⟨j + 1, by omega, hlt, HE.out.set _ _ (by go_num), HW.out, HR.out⟩
     case measure =>
      rw [HP.out, (HE.out.set _ (j + 1) (by go_num)).1.posW]
      omega
    | false =>
     rw [hl, word_not hc] at hW
     rw [hl, rest_not hc, ← hl] at hR
     have HW := qh9 hW
     have HR := qh9 hR
     have HC := qh9 hc
     clear hW hR hl hc
     go_wp2_with fail
     refine (endedP wo g s _ HE.out.1).mono ?_
     rintro e w1 ⟨rfl, hq⟩
     rw [HN.out]
     replace HE := qh9 (HE.out.q hq)
     clear hq
     go_wp2_with fail
     refine (peekP w1 g s j HE.out.1 hlt).mono ?_
     rintro e w2 ⟨rfl, hq⟩
     replace HE := qh9 (HE.out.q hq)
     clear hq
     go_wp2_with fail
     refine (isConP s[j] w2).mono ?_
     rintro e w0 ⟨rfl, rfl⟩
     rw [HC.out]
     have c0 := HE.out.1.c0
     have c1 := HE.out.1.c1
     have hb1 : (0 : Int) ≤ (i : Int) ∧ (i : Int) ≤ (j : Int) ∧ (j : Int) ≤ (s.size : Int) := by omega
     have hb2 : (0 : Int) ≤ (i : Int) := by omega
     have hb3 : (i : Int) ≤ (j : Int) := by omega
     have hb4 : (j : Int) ≤ (s.size : Int) := by omega
     go_wp2_with fail
     go_quiet (fail)
     go_wp2
     go_ret
     exact WoW.done hj HE.out HW.out HR.out ⟨nq, rfl⟩
theorem nameP (w : World) (g : Nat) (s : ByteArray) (i : Nat) (h : Scn w g s i) (hi : i ≤ s.size) (hs : s.size ≤ 6000) :
 Calls Tryz.prog 243 #[.pointer (some ⟨g, 0, none⟩)] w (OutB w g s (nameL s.size ((LA s).drop i))) := by
 have HE := qh9 (ScW.start h)
 clear h
 rcases la_cases s hi with ⟨rfl, hl⟩ | ⟨hlt, hl⟩
 · rw [hl]
   clear hl
   go_enter Tryz.func243, Tryz.ntmps243
   go_wp2_with fail
   refine (peekEnd w g s HE.out.1).mono ?_
   rintro e w3 ⟨rfl, hb⟩
   exact ⟨rfl, rfl, HE.out.2.trans hb⟩
 · have hr : nameL s.size ((LA s).drop i) = if s[i] = 124 then encL s.size 124 [] ((LA s).drop (i + 1)) else if conB s[i] then .ok (wordL ((LA s).drop i)) (restL ((LA s).drop i)) else .bad 12 (i : Int) := by
    rw [← posL_drop s hi, hl, nameL]
   rw [hr]
   clear hr hl
   by_cases h1 : s[i] = 124
   · rw [if_pos h1]
     have hx : ((s[i].toNat : Int) == 124) = true := by rw [h1]; rfl
     clear h1
     obtain ⟨RR, hr⟩ : ∃ RR, encL s.size 124 [] ((LA s).drop (i + 1)) = RR := ⟨_, rfl⟩
     have KB : Hid (∀ w, Scn w g s i → Calls Tryz.prog 213 #[.pointer (some ⟨g, 0, none⟩), .int .u8 124] w (OutB w g s RR)) := fun w h => hr ▸ betweenP w g s i 124 h hlt hs
     rw [hr]
     clear hr
     go_enter Tryz.func243, Tryz.ntmps243
     go_wp2_with fail
     refine (peekP w g s i HE.out.1 hlt).mono ?_
     rintro e w1 ⟨rfl, hq⟩
     replace HE := qh9 (HE.out.q hq)
     clear hq
     go_wp2_with fail
     refine (KB.out w1 HE.out.1).mono ?_
     cases RR with
     | bad x p =>
      rintro e w2 ⟨rfl, hb⟩
      exact ⟨rfl, rfl, HE.out.2.trans hb⟩
     | ok b r =>
      rintro e w2 ⟨j, hj, hd, rfl, hsc, hb⟩
      have HQ : Hid (RetR5 w g s r (.string (BA b)) (.returned (.string (BA b))) w2) := ⟨j, hj, hd, rfl, hsc, HE.out.2.trans hb⟩
      clear hd hsc hb
      go_wp2
      go_ret
      exact HQ.out
   · rw [if_neg h1]
     have hx : ((s[i].toNat : Int) == 124) = false := by rw [show (124 : Int) = ((124 : UInt8).toNat : Int) from rfl, byte_eq, beq_eq_false_iff_ne]; exact h1
     clear h1
     cases hc : conB s[i] with
     | true =>
      rw [if_pos rfl]
      have HC := qh9 hc
      clear hc
      have KW := qh9 (fun w h => wordP w g s i h hi hs)
      generalize wordL ((LA s).drop i) = b at KW ⊢
      generalize restL ((LA s).drop i) = r at KW ⊢
      go_enter Tryz.func243, Tryz.ntmps243
      go_wp2_with fail
      refine (peekP w g s i HE.out.1 hlt).mono ?_
      rintro e w1 ⟨rfl, hq⟩
      replace HE := qh9 (HE.out.q hq)
      clear hq
      go_wp2_with fail
      refine (isConP s[i] w1).mono ?_
      rintro e w0 ⟨rfl, rfl⟩
      rw [HC.out]
      go_wp2_with fail
      refine (KW.out w1 HE.out.1).mono ?_
      rintro e w2 ⟨j, hj, hd, rfl, hsc, hb⟩
      have HQ : Hid (RetR5 w g s r (.string (BA b)) (.returned (.string (BA b))) w2) := ⟨j, hj, hd, rfl, hsc, HE.out.2.trans hb⟩
      clear hd hsc hb
      go_wp2
      go_ret
      exact HQ.out
     | false =>
      rw [if_neg (by simp)]
      have HC := qh9 hc
      clear hc
      go_enter Tryz.func243, Tryz.ntmps243
      go_wp2_with fail
      refine (peekP w g s i HE.out.1 hlt).mono ?_
      rintro e w1 ⟨rfl, hq⟩
      replace HE := qh9 (HE.out.q hq)
      clear hq
      go_wp2_with fail
      refine (isConP s[i] w1).mono ?_
      rintro e w0 ⟨rfl, rfl⟩
      rw [HC.out]
      have c1 := HE.out.1.c1
      go_wp2_with fail
      refine (reportP 12 _ w1 g).mono ?_
      rintro e w2 ⟨rfl, hb⟩
      exact ⟨rfl, rfl, HE.out.2.trans hb⟩
theorem negS_len (b : Bool) (l : List UInt8) : (negS b l).length ≤ l.length + 3 := by
 unfold negS
 cases b
 · simp
 · have h1 := len_BA (x := -(val l)) (k := l.length + 1) (by
    have h2 := mag_bd (BA l)
    have h3 : (BA l).size = l.length := by have := ba_len l; omega
    rw [h3] at h2
    rw [Int.natAbs_neg, val_eq]
    unfold zval
    rw [show mag (LA (BA l)) = mag l from rfl] at h2
    split <;> simpa using h2)
   have h2 := ba_len (text (-(val l)))
   simp only [if_true]
   omega
theorem numQ_size {b : Bool} {x y : List UInt8} (hx : x.length ≤ 6000) (hy : y.length ≤ 6000) : (nt (numQ b x y)).size ≤ 400000000 ∧ (dt (numQ b x y)).size ≤ 400000000 := by
 obtain ⟨k, hk⟩ : ∃ k, k = 6010 := ⟨_, rfl⟩
 have h : Bd k (numQ b x y) := bd_quo (by have := negS_len b x; omega) (by omega) (by omega)
 have h1 := bd_nt h
 have h2 := bd_dt h
 constructor <;> omega
theorem len_negS (b : Bool) (l : List UInt8) (hl : l.length ≤ 6000) : ((BA (negS b l)).size : Int) ≤ 400000000 := by
 have := negS_len b l
 have := ba_len (negS b l)
 omega
theorem numberTokenP (p : Int) (b : Bool) (x y r : List UInt8) (hx : (decL x).length ≤ 6000) (hy : (decL y).length ≤ 6000) (w : World) :
 Calls Tryz.prog 245 #[.int .i64 p, .string (BA (negS b (decL x))), .string (BA (decL y))] w (OutK w (numT numP sizP p b x y r)) := by
 have HX := qh9 (len_negS b _ hx)
 have HY := qh9 (ba_len (decL y))
 have T0 := qh9 (TB.new w #[.int .i64 0, .int .i64 0, .string ⟨#[]⟩, .string ⟨#[]⟩, .string ⟨#[]⟩])
 have B0 := qh9 (Below.alloc (Below.refl w.heap.size w) (Nat.le_refl _) (.cells #[.int .i64 0, .int .i64 0, .string ⟨#[]⟩, .string ⟨#[]⟩, .string ⟨#[]⟩] 157))
 unfold numT
 by_cases h0 : decL y = [48]
 · rw [if_pos h0]
   have hz : ((BA (decL y)).toList == [48]) = true := by rw [ba_toList, h0]; rfl
   generalize decL x = X at HX ⊢
   generalize decL y = Y at HY hz ⊢
   clear h0 hx hy
   go_enter Tryz.func245, Tryz.ntmps245
   go_wp2_with fail
   refine (reportB 12 p _).mono ?_
   rintro e w2 ⟨rfl, rfl⟩
   exact ⟨rfl, B0.out, rfl⟩
 · rw [if_neg h0]
   have hz : ((BA (decL y)).toList == [48]) = false := by rw [ba_toList, beq_eq_false_iff_ne]; exact h0
   generalize decL x = X at HX hx ⊢
   generalize decL y = Y at HY hz hy ⊢
   clear h0
   have HR : Hid (∀ w, Calls Tryz.prog 217 #[.string (BA (negS b X)), .string (BA Y)] w (RetQ w (numQ b X Y))) := fun w => reduce_q _ _ w (by have := HX.out; omega) (by have := HY.out; omega)
   unfold numP
   have h1 : (nt (numQ b X Y)).size ≤ 400000000 ∧ (dt (numQ b X Y)).size ≤ 400000000 := numQ_size hx hy
   generalize numQ b X Y = Q at HR h1 ⊢
   have HD1 := qh9 (fun w => digits_any (nt Q) w h1.1)
   have HD2 := qh9 (fun w => digits_any (dt Q) w h1.2)
   clear h1 hx hy
   show Calls _ _ _ _ (OutK w (if 100 < sizP (LA (nt Q)) ∨ 100 < sizP (LA (dt Q)) then .bad 2 p else .ok ⟨5, p, [], LA (nt Q), LA (dt Q)⟩ r))
   rw [show (body (LA (nt Q))).length = sizP (LA (nt Q)) from rfl] at HD1
   rw [show (body (LA (dt Q))).length = sizP (LA (dt Q)) from rfl] at HD2
   generalize sizP (LA (nt Q)) = n1 at HD1 ⊢
   generalize sizP (LA (dt Q)) = n2 at HD2 ⊢
   by_cases h1 : 100 < n1
   · rw [if_pos (.inl h1)]
     have e1 : decide ((100 : Int) < (n1 : Int)) = true := by rw [decide_eq_true_eq]; omega
     have e2 : (100 : Int) < (n1 : Int) := by omega
     clear h1
     go_enter Tryz.func245, Tryz.ntmps245
     go_wp2_with fail
     refine (HR.out _).mono ?_
     rintro e w1 ⟨rfl, hb⟩
     replace B0 := qh9 (chain5 B0.out hb)
     replace T0 := qh9 (T0.out.keep hb)
     clear hb
     go_wp2_with fail
     refine (HD1.out _).mono ?_
     rintro e w2 ⟨rfl, rfl⟩
     go_wp2_with fail
     refine (reportB 2 p _).mono ?_
     rintro e w4 ⟨rfl, rfl⟩
     exact ⟨rfl, B0.out, rfl⟩
   · have e1 : decide ((100 : Int) < (n1 : Int)) = false := by rw [decide_eq_false_iff_not]; omega
     have e2 : ¬ (100 : Int) < (n1 : Int) := by omega
     by_cases h2 : 100 < n2
     · rw [if_pos (.inr h2)]
       have e3 : decide ((100 : Int) < (n2 : Int)) = true := by rw [decide_eq_true_eq]; omega
       have e4 : (100 : Int) < (n2 : Int) := by omega
       clear h1 h2
       go_enter Tryz.func245, Tryz.ntmps245
       go_wp2_with fail
       refine (HR.out _).mono ?_
       rintro e w1 ⟨rfl, hb⟩
       replace B0 := qh9 (chain5 B0.out hb)
       replace T0 := qh9 (T0.out.keep hb)
       clear hb
       go_wp2_with fail
       refine (HD1.out _).mono ?_
       rintro e w2 ⟨rfl, rfl⟩
       go_wp2_with fail
       refine (HD2.out _).mono ?_
       rintro e w3 ⟨rfl, rfl⟩
       go_wp2_with fail
       refine (reportB 2 p _).mono ?_
       rintro e w4 ⟨rfl, rfl⟩
       exact ⟨rfl, B0.out, rfl⟩
     · rw [if_neg (by omega)]
       have e3 : decide ((100 : Int) < (n2 : Int)) = false := by rw [decide_eq_false_iff_not]; omega
       have e4 : ¬ (100 : Int) < (n2 : Int) := by omega
       clear h1 h2
       go_enter Tryz.func245, Tryz.ntmps245
       go_wp2_with fail
       refine (HR.out _).mono ?_
       rintro e w1 ⟨rfl, hb⟩
       replace B0 := qh9 (chain5 B0.out hb)
       replace T0 := qh9 (T0.out.keep hb)
       clear hb
       go_wp2_with fail
       refine (HD1.out _).mono ?_
       rintro e w2 ⟨rfl, rfl⟩
       go_wp2_with fail
       refine (HD2.out _).mono ?_
       rintro e w3 ⟨rfl, rfl⟩
       go_wp2_with (refine TB.store (.tmp 6) (.tmp 30) rfl rfl w.heap.size ⟨5, p, [], LA (nt Q), LA (dt Q)⟩ _ rfl rfl rfl T0.out ?_)
       exact retTk rfl rfl (T0.out.set _) ⟨bel_set _ B0.out (Nat.le_refl _), rfl⟩
def OutT (w : World) (g : Nat) (s : ByteArray) (R : Sc Tk) (e : Ending) (w' : World) : Prop := match R with
 | .ok t r => RetR5 w g s r (tkV t) e w'
 | .bad x p => PanS w g x p e w'
theorem ScW.bel {w wr w1 : World} {g : Nat} {s : ByteArray} {i : Nat} (h : ScW w wr g s i) (hb : Below wr.heap.size wr w1) : ScW w w1 g s i := ⟨h.1.of hb, h.2.trans (But.of hb)⟩
theorem ScW.next {w wr w1 : World} {g : Nat} {s : ByteArray} {i j : Nat} (h : ScW w wr g s i) (hs : Scn w1 g s j) (hb : But g wr w1) : ScW w w1 g s j := ⟨hs, h.2.trans hb⟩
theorem ScW.row {w wr : World} {g b : Nat} {s : ByteArray} {i : Nat} (h : ScW w wr g s i) (c : Array Value) (hg : g < w.heap.size) (hb : w.heap.size ≤ b) : ScW w (wr.setRow b c) g s i := by
 refine ⟨?_, h.2.os, h.2.tape, h.2.output, ?_, fun k hk hkg => ?_⟩
 · show (wr.setRow b c).heap[g]? = _
   rw [setRow_other wr b g c (by omega)]
   exact h.1
 · have := h.2.size
   simpa [World.setRow] using this
 · rw [setRow_other wr b k c (by omega)]
   exact h.2.block k hk hkg
theorem ScW.alloc {w : World} {g : Nat} {s : ByteArray} {i : Nat} (h : Scn w g s i) (o : Obj) : ScW w (w.alloc o) g s i := (ScW.start h).bel (Below.alloc (Below.refl _ _) (Nat.le_refl _) _)
theorem OutT.ok_ {w wr : World} {g : Nat} {s : ByteArray} {t : Tk} {r : List UInt8} {j : Nat} (hj : j ≤ s.size) (hr : (LA s).drop j = r) (h : ScW w wr g s j) : OutT w g s (.ok t r) (.returned (tkV t)) wr := ⟨j, hj, hr, rfl, h.1, h.2⟩
theorem q_below {w w1 : World} (hq : ∃ n, w1 = w.drewN n) : Below w.heap.size w w1 := below_q5 (Below.refl _ _) hq
theorem pre58 (r : List UInt8) : Lib.hasPrefix r [58, 58] = true ↔ ∃ r', r = 58 :: 58 :: r' := by
 constructor
 · intro h
   match r, h with
   | [], h => cases h
   | [x], h => rw [pre2_one] at h; cases h
   | x :: y :: r', h =>
    rw [pre2, Bool.and_eq_true] at h
    exact ⟨r', by rw [← eq_of_beq h.1, ← eq_of_beq h.2]⟩
 · rintro ⟨r', rfl⟩
   rw [pre2]; rfl
theorem numL_len {w : List UInt8} {b : Bool} {x y : List UInt8} (h : numL w = some (b, x, y)) : x.length ≤ max 1 w.length ∧ y.length ≤ max 1 w.length := by
 unfold numL at h
 split at h
 · simp at h
   have h1 := afterM_len w
   rw [← h.2.1, ← h.2.2]
   unfold cutL
   split
   · have h2 := (List.takeWhile_sublist (fun x : UInt8 => x != 47) (l := afterM w)).length_le
     have h3 := (List.dropWhile_sublist (fun x : UInt8 => x != 47) (l := afterM w)).length_le
     simp only [List.length_tail]
     omega
   · simp; omega
 · simp at h
section
variable (ok : List UInt8 → Bool) (num : Bool → List UInt8 → List UInt8 → List UInt8 × List UInt8) (size : List UInt8 → Nat)
def wordT1 (n : Nat) (l r' : List UInt8) : Sc Tk := match nameL n r' with | .bad e p => .bad e p | .ok b r => symT ok (posL n l) (wordL l) b r
def wordT2 (n : Nat) (l : List UInt8) : Sc Tk := if wordL l = [46] then .ok ⟨3, posL n l, [], [], []⟩ (restL l) else
 match numL (wordL l) with
 | some (b, x, y) => numT num size (posL n l) b x y (restL l)
 | none => symT ok (posL n l) [] (wordL l) (restL l)
theorem wordT_yes (n : Nat) (l r' : List UInt8) (h : restL l = 58 :: 58 :: r') : wordT ok num size n l = wordT1 ok n l r' := by
 unfold wordT wordT1
 rw [h]
 rfl
theorem wordT_no (n : Nat) (l : List UInt8) (h : Lib.hasPrefix (restL l) [58, 58] = false) : wordT ok num size n l = wordT2 ok num size n l := by
 unfold wordT wordT2
 split
 · rename_i r' e
   rw [(pre58 _).2 ⟨r', e⟩] at h
   cases h
 · rfl
end
theorem drop2 {s : ByteArray} {j : Nat} {r' : List UInt8} (h : (LA s).drop j = 58 :: 58 :: r') : (LA s).drop (j + 2) = r' ∧ j + 2 ≤ s.size := by
 constructor
 · rw [← List.drop_drop, h]; rfl
 · have := congrArg List.length h
   rw [List.length_drop, la_length, List.length_cons, List.length_cons] at this
   omega
theorem wordTokenP (w : World) (g : Nat) (s : ByteArray) (i : Nat) (h : Scn w g s i) (hi : i < s.size) (hs : s.size ≤ 6000) :
 Calls Tryz.prog 216 #[.pointer (some ⟨g, 0, none⟩)] w (OutT w g s (wordT okP numP sizP s.size ((LA s).drop i))) := by
 have HG := qh9 h.lt
 have HT := qh9 (TB.new w #[.int .i64 0, .int .i64 0, .string ⟨#[]⟩, .string ⟨#[]⟩, .string ⟨#[]⟩])
 have HE := qh9 (ScW.alloc h (.cells #[.int .i64 0, .int .i64 0, .string ⟨#[]⟩, .string ⟨#[]⟩, .string ⟨#[]⟩] 157))
 have KW := qh9 (fun w h => wordP w g s i h (Nat.le_of_lt hi) hs)
 have hp := posL_drop s (Nat.le_of_lt hi)
 have hwl : (wordL ((LA s).drop i)).length ≤ 6000 := by
  have h1 := (List.takeWhile_sublist conB (l := (LA s).drop i)).length_le
  rw [List.length_drop, la_length] at h1
  unfold wordL
  omega
 have c1 := h.of (Below.alloc (Below.refl _ _) (Nat.le_refl _) (.cells #[.int .i64 0, .int .i64 0, .string ⟨#[]⟩, .string ⟨#[]⟩, .string ⟨#[]⟩] 157)) |>.c1
 cases hx : Lib.hasPrefix (restL ((LA s).drop i)) [58, 58] with
 | true =>
  obtain ⟨r', hr⟩ := (pre58 _).1 hx
  rw [wordT_yes _ _ _ _ _ _ hr]
  unfold wordT1
  rw [hr] at KW hx
  rw [hp]
  have HX := qh9 hx
  generalize wordL ((LA s).drop i) = W at KW ⊢
  have KN : Hid (∀ w j, (LA s).drop j = r' → j ≤ s.size → Scn w g s j → Calls Tryz.prog 243 #[.pointer (some ⟨g, 0, none⟩)] w (OutB w g s (nameL s.size r'))) := fun w j hr hj h => hr ▸ nameP w g s j h hj hs
  clear hr hx h hp hwl
  cases hRN : nameL s.size r' with
  | bad x p =>
   rw [hRN] at KN
   clear hRN
   show Calls _ _ _ _ (OutT w g s (.bad x p))
   go_enter Tryz.func216, Tryz.ntmps216
   go_wp2_with fail
   clear c1
   refine (KW.out _ HE.out.1).mono ?_
   rintro e w1 ⟨j, hj, hr, rfl, hsc, hb⟩
   have HA : Hid (Lib.hasPrefix ((LA s).drop j) (LA ⟨#[58, 58]⟩) = true) := by show _ = _; rw [hr]; exact HX.out
   have HR3 := qh9 hr
   clear hr
   replace HE := qh9 (HE.out.next hsc hb)
   replace HT := qh9 (HT.out.but hb (by have := HG.out; omega))
   clear hsc hb
   go_wp2_with fail
   refine (atP w1 g s _ HE.out.1 hj _ _ HA.out).mono ?_
   rintro e w2 ⟨rfl, hq⟩
   replace HT := qh9 (HT.out.keep (q_below hq))
   replace HE := qh9 (HE.out.q hq)
   clear hq
   have HJ := qh9 (drop2 HR3.out)
   have c1 := HE.out.1.c1
   have cf := HE.out.1.fr
   go_wp2_with fail
   clear c1 cf
   replace HE := qh9 (HE.out.set ((j : Int) + 2) (j + 2) (by go_num))
   replace HT : Hid (TB (w2.setCell ⟨g, 1, none⟩ (.int .i64 ((j : Int) + 2))) w.heap.size #[.int .i64 0, .int .i64 0, .string ⟨#[]⟩, .string ⟨#[]⟩, .string ⟨#[]⟩]) := HT.out.but (But.set w2 1 _) (by have := HG.out; omega)
   refine (KN.out _ _ HJ.out.1 HJ.out.2 HE.out.1).mono ?_
   rintro e w3 ⟨rfl, hb⟩
   exact ⟨rfl, rfl, HE.out.2.trans hb⟩
  | ok b r =>
   rw [hRN] at KN
   clear hRN
   show Calls _ _ _ _ (OutT w g s (symT okP (i : Int) W b r))
   have KS : Hid (∀ w, Calls Tryz.prog 214 #[.int .i64 (i : Int), .string (BA W), .string (BA b)] w (OutK w (symT okP (i : Int) W b r))) := fun w => symbolTokenP (i : Int) W b r w
   cases hTT : symT okP (i : Int) W b r with
   | bad x p =>
    rw [hTT] at KS
    clear hTT
    go_enter Tryz.func216, Tryz.ntmps216
    go_wp2_with fail
    clear c1
    refine (KW.out _ HE.out.1).mono ?_
    rintro e w1 ⟨j, hj, hr, rfl, hsc, hb⟩
    have HA : Hid (Lib.hasPrefix ((LA s).drop j) (LA ⟨#[58, 58]⟩) = true) := by show _ = _; rw [hr]; exact HX.out
    have HR3 := qh9 hr
    clear hr
    replace HE := qh9 (HE.out.next hsc hb)
    replace HT := qh9 (HT.out.but hb (by have := HG.out; omega))
    clear hsc hb
    go_wp2_with fail
    refine (atP w1 g s _ HE.out.1 hj _ _ HA.out).mono ?_
    rintro e w2 ⟨rfl, hq⟩
    replace HT := qh9 (HT.out.keep (q_below hq))
    replace HE := qh9 (HE.out.q hq)
    clear hq
    have HJ := qh9 (drop2 HR3.out)
    have c1 := HE.out.1.c1
    have cf := HE.out.1.fr
    go_wp2_with fail
    clear c1 cf
    replace HE := qh9 (HE.out.set ((j : Int) + 2) (j + 2) (by go_num))
    replace HT : Hid (TB (w2.setCell ⟨g, 1, none⟩ (.int .i64 ((j : Int) + 2))) w.heap.size #[.int .i64 0, .int .i64 0, .string ⟨#[]⟩, .string ⟨#[]⟩, .string ⟨#[]⟩]) := HT.out.but (But.set w2 1 _) (by have := HG.out; omega)
    refine (KN.out _ _ HJ.out.1 HJ.out.2 HE.out.1).mono ?_
    rintro e w3 ⟨j3, hj3, hr3, rfl, hsc, hb⟩
    replace HE := qh9 (HE.out.next hsc hb)
    replace HT := qh9 (HT.out.but hb (by have := HG.out; omega))
    have HR4 := qh9 hr3
    clear hsc hb hr3
    go_wp2_with fail
    refine (KS.out _).mono ?_
    rintro e w8 ⟨hb, he⟩
    replace he : e = _ := he
    subst he
    exact ⟨rfl, rfl, HE.out.2.trans (But.of hb)⟩
   | ok t r9 =>
    obtain rfl := symT_r okP hTT
    rw [hTT] at KS
    clear hTT
    go_enter Tryz.func216, Tryz.ntmps216
    go_wp2_with fail
    clear c1
    refine (KW.out _ HE.out.1).mono ?_
    rintro e w1 ⟨j, hj, hr, rfl, hsc, hb⟩
    have HA : Hid (Lib.hasPrefix ((LA s).drop j) (LA ⟨#[58, 58]⟩) = true) := by show _ = _; rw [hr]; exact HX.out
    have HR3 := qh9 hr
    clear hr
    replace HE := qh9 (HE.out.next hsc hb)
    replace HT := qh9 (HT.out.but hb (by have := HG.out; omega))
    clear hsc hb
    go_wp2_with fail
    refine (atP w1 g s _ HE.out.1 hj _ _ HA.out).mono ?_
    rintro e w2 ⟨rfl, hq⟩
    replace HT := qh9 (HT.out.keep (q_below hq))
    replace HE := qh9 (HE.out.q hq)
    clear hq
    have HJ := qh9 (drop2 HR3.out)
    have c1 := HE.out.1.c1
    have cf := HE.out.1.fr
    go_wp2_with fail
    clear c1 cf
    replace HE := qh9 (HE.out.set ((j : Int) + 2) (j + 2) (by go_num))
    replace HT : Hid (TB (w2.setCell ⟨g, 1, none⟩ (.int .i64 ((j : Int) + 2))) w.heap.size #[.int .i64 0, .int .i64 0, .string ⟨#[]⟩, .string ⟨#[]⟩, .string ⟨#[]⟩]) := HT.out.but (But.set w2 1 _) (by have := HG.out; omega)
    refine (KN.out _ _ HJ.out.1 HJ.out.2 HE.out.1).mono ?_
    rintro e w3 ⟨j3, hj3, hr3, rfl, hsc, hb⟩
    replace HE := qh9 (HE.out.next hsc hb)
    replace HT := qh9 (HT.out.but hb (by have := HG.out; omega))
    have HR4 := qh9 hr3
    clear hsc hb hr3
    go_wp2_with fail
    refine (KS.out _).mono ?_
    rintro e w8 ⟨hb, he⟩
    replace he : e = _ := he
    subst he
    replace HE := qh9 (HE.out.bel hb)
    replace HT := qh9 (HT.out.keep hb)
    clear hb
    go_wp2_with (refine TB.store (.tmp 2) (.tmp 27) rfl rfl w.heap.size t _ rfl rfl rfl HT.out ?_)
    exact retTk rfl rfl (HT.out.set _) (OutT.ok_ hj3 HR4.out (HE.out.row _ HG.out (Nat.le_refl _)))
 | false =>
  rw [wordT_no _ _ _ _ _ hx]
  unfold wordT2
  rw [hp]
  have HX := qh9 hx
  generalize wordL ((LA s).drop i) = W at KW hwl ⊢
  generalize restL ((LA s).drop i) = RR at KW HX ⊢
  clear hx h hp
  by_cases h46 : W = [46]
  · rw [if_pos h46]
    have hz : ((BA W).toList == [46]) = true := by rw [ba_toList, h46]; rfl
    clear h46
    go_enter Tryz.func216, Tryz.ntmps216
    go_wp2_with fail
    clear c1
    refine (KW.out _ HE.out.1).mono ?_
    rintro e w1 ⟨j, hj, hr, rfl, hsc, hb⟩
    have HA : Hid (Lib.hasPrefix ((LA s).drop j) (LA ⟨#[58, 58]⟩) = false) := by show _ = _; rw [hr]; exact HX.out
    have HR3 := qh9 hr
    clear hr
    replace HE := qh9 (HE.out.next hsc hb)
    replace HT := qh9 (HT.out.but hb (by have := HG.out; omega))
    clear hsc hb
    go_wp2_with fail
    refine (atP w1 g s _ HE.out.1 hj _ _ HA.out).mono ?_
    rintro e w2 ⟨rfl, hq⟩
    replace HT := qh9 (HT.out.keep (q_below hq))
    replace HE := qh9 (HE.out.q hq)
    clear hq
    go_wp2_with (refine TB.store (.tmp 2) (.tmp 31) rfl rfl w.heap.size ⟨3, (i : Int), [], [], []⟩ _ rfl rfl rfl HT.out ?_)
    exact retTk rfl rfl (HT.out.set _) (OutT.ok_ hj HR3.out (HE.out.row _ HG.out (Nat.le_refl _)))
  · rw [if_neg h46]
    have hz : ((BA W).toList == [46]) = false := by rw [ba_toList, beq_eq_false_iff_ne]; exact h46
    clear h46
    have KF := qh9 (fractionP W hwl)
    cases hn : numL W with
    | none =>
     rw [hn] at KF
     clear hn
     show Calls _ _ _ _ (OutT w g s (symT okP (i : Int) [] W RR))
     have KS : Hid (∀ w, Calls Tryz.prog 214 #[.int .i64 (i : Int), .string ⟨#[]⟩, .string (BA W)] w (OutK w (symT okP (i : Int) [] W RR))) := fun w => symbolTokenP (i : Int) [] W RR w
     cases hTT : symT okP (i : Int) [] W RR with
     | bad x p =>
      rw [hTT] at KS
      clear hTT
      go_enter Tryz.func216, Tryz.ntmps216
      go_wp2_with fail
      clear c1
      refine (KW.out _ HE.out.1).mono ?_
      rintro e w1 ⟨j, hj, hr, rfl, hsc, hb⟩
      have HA : Hid (Lib.hasPrefix ((LA s).drop j) (LA ⟨#[58, 58]⟩) = false) := by show _ = _; rw [hr]; exact HX.out
      have HR3 := qh9 hr
      clear hr
      replace HE := qh9 (HE.out.next hsc hb)
      replace HT := qh9 (HT.out.but hb (by have := HG.out; omega))
      clear hsc hb
      go_wp2_with fail
      refine (atP w1 g s _ HE.out.1 hj _ _ HA.out).mono ?_
      rintro e w2 ⟨rfl, hq⟩
      replace HT := qh9 (HT.out.keep (q_below hq))
      replace HE := qh9 (HE.out.q hq)
      clear hq
      go_wp2_with fail
      refine (KF.out _).mono ?_
      rintro e w3 ⟨hb, he⟩
      replace he : e = _ := he
      subst he
      replace HE := qh9 (HE.out.bel hb)
      replace HT := qh9 (HT.out.keep hb)
      clear hb
      go_wp2_with fail
      refine (KS.out _).mono ?_
      rintro e w8 ⟨hb, he⟩
      replace he : e = _ := he
      subst he
      exact ⟨rfl, rfl, HE.out.2.trans (But.of hb)⟩
     | ok t r9 =>
      obtain rfl := symT_r okP hTT
      rw [hTT] at KS
      clear hTT
      go_enter Tryz.func216, Tryz.ntmps216
      go_wp2_with fail
      clear c1
      refine (KW.out _ HE.out.1).mono ?_
      rintro e w1 ⟨j, hj, hr, rfl, hsc, hb⟩
      have HA : Hid (Lib.hasPrefix ((LA s).drop j) (LA ⟨#[58, 58]⟩) = false) := by show _ = _; rw [hr]; exact HX.out
      have HR3 := qh9 hr
      clear hr
      replace HE := qh9 (HE.out.next hsc hb)
      replace HT := qh9 (HT.out.but hb (by have := HG.out; omega))
      clear hsc hb
      go_wp2_with fail
      refine (atP w1 g s _ HE.out.1 hj _ _ HA.out).mono ?_
      rintro e w2 ⟨rfl, hq⟩
      replace HT := qh9 (HT.out.keep (q_below hq))
      replace HE := qh9 (HE.out.q hq)
      clear hq
      go_wp2_with fail
      refine (KF.out _).mono ?_
      rintro e w3 ⟨hb, he⟩
      replace he : e = _ := he
      subst he
      replace HE := qh9 (HE.out.bel hb)
      replace HT := qh9 (HT.out.keep hb)
      clear hb
      go_wp2_with fail
      refine (KS.out _).mono ?_
      rintro e w8 ⟨hb, he⟩
      replace he : e = _ := he
      subst he
      replace HE := qh9 (HE.out.bel hb)
      replace HT := qh9 (HT.out.keep hb)
      clear hb
      go_wp2_with (refine TB.store (.tmp 2) (.tmp 45) rfl rfl w.heap.size t _ rfl rfl rfl HT.out ?_)
      exact retTk rfl rfl (HT.out.set _) (OutT.ok_ hj HR3.out (HE.out.row _ HG.out (Nat.le_refl _)))
    | some q =>
     obtain ⟨b, x, y⟩ := q
     rw [hn] at KF
     have hnl : (decL x).length ≤ 6000 ∧ (decL y).length ≤ 6000 := by
      have h1 := numL_len hn
      have h2 := decL_len x
      have h3 := decL_len y
      omega
     clear hn
     show Calls _ _ _ _ (OutT w g s (numT numP sizP (i : Int) b x y RR))
     have KS : Hid (∀ w, Calls Tryz.prog 245 #[.int .i64 (i : Int), .string (BA (negS b (decL x))), .string (BA (decL y))] w (OutK w (numT numP sizP (i : Int) b x y RR))) := fun w => numberTokenP (i : Int) b x y RR hnl.1 hnl.2 w
     cases hTT : numT numP sizP (i : Int) b x y RR with
     | bad x p =>
      rw [hTT] at KS
      clear hTT
      go_enter Tryz.func216, Tryz.ntmps216
      go_wp2_with fail
      clear c1
      refine (KW.out _ HE.out.1).mono ?_
      rintro e w1 ⟨j, hj, hr, rfl, hsc, hb⟩
      have HA : Hid (Lib.hasPrefix ((LA s).drop j) (LA ⟨#[58, 58]⟩) = false) := by show _ = _; rw [hr]; exact HX.out
      have HR3 := qh9 hr
      clear hr
      replace HE := qh9 (HE.out.next hsc hb)
      replace HT := qh9 (HT.out.but hb (by have := HG.out; omega))
      clear hsc hb
      go_wp2_with fail
      refine (atP w1 g s _ HE.out.1 hj _ _ HA.out).mono ?_
      rintro e w2 ⟨rfl, hq⟩
      replace HT := qh9 (HT.out.keep (q_below hq))
      replace HE := qh9 (HE.out.q hq)
      clear hq
      go_wp2_with fail
      refine (KF.out _).mono ?_
      rintro e w3 ⟨hb, he⟩
      replace he : e = _ := he
      subst he
      replace HE := qh9 (HE.out.bel hb)
      replace HT := qh9 (HT.out.keep hb)
      clear hb
      go_wp2_with fail
      refine (KS.out _).mono ?_
      rintro e w8 ⟨hb, he⟩
      replace he : e = _ := he
      subst he
      exact ⟨rfl, rfl, HE.out.2.trans (But.of hb)⟩
     | ok t r9 =>
      obtain rfl := numT_r numP sizP hTT
      rw [hTT] at KS
      clear hTT
      go_enter Tryz.func216, Tryz.ntmps216
      go_wp2_with fail
      clear c1
      refine (KW.out _ HE.out.1).mono ?_
      rintro e w1 ⟨j, hj, hr, rfl, hsc, hb⟩
      have HA : Hid (Lib.hasPrefix ((LA s).drop j) (LA ⟨#[58, 58]⟩) = false) := by show _ = _; rw [hr]; exact HX.out
      have HR3 := qh9 hr
      clear hr
      replace HE := qh9 (HE.out.next hsc hb)
      replace HT := qh9 (HT.out.but hb (by have := HG.out; omega))
      clear hsc hb
      go_wp2_with fail
      refine (atP w1 g s _ HE.out.1 hj _ _ HA.out).mono ?_
      rintro e w2 ⟨rfl, hq⟩
      replace HT := qh9 (HT.out.keep (q_below hq))
      replace HE := qh9 (HE.out.q hq)
      clear hq
      go_wp2_with fail
      refine (KF.out _).mono ?_
      rintro e w3 ⟨hb, he⟩
      replace he : e = _ := he
      subst he
      replace HE := qh9 (HE.out.bel hb)
      replace HT := qh9 (HT.out.keep hb)
      clear hb
      go_wp2_with fail
      refine (KS.out _).mono ?_
      rintro e w8 ⟨hb, he⟩
      replace he : e = _ := he
      subst he
      replace HE := qh9 (HE.out.bel hb)
      replace HT := qh9 (HT.out.keep hb)
      clear hb
      go_wp2_with (refine TB.store (.tmp 2) (.tmp 42) rfl rfl w.heap.size t _ rfl rfl rfl HT.out ?_)
      exact retTk rfl rfl (HT.out.set _) (OutT.ok_ hj HR3.out (HE.out.row _ HG.out (Nat.le_refl _)))
theorem mark1P (c : Int) (h0 : (c == 40) = true) (w : World) : Calls Tryz.prog 211 #[.int .u8 c] w fun e w' => e = .returned (.int .i64 1) ∧ w = w' := by
 go_enter Tryz.func211, Tryz.ntmps211
 go_wp2
 go_ret
 exact ⟨rfl, rfl⟩
theorem mark2P (c : Int) (h0 : (c == 40) = false) (h1 : (c == 41) = true) (w : World) : Calls Tryz.prog 211 #[.int .u8 c] w fun e w' => e = .returned (.int .i64 2) ∧ w = w' := by
 go_enter Tryz.func211, Tryz.ntmps211
 go_wp2
 go_ret
 exact ⟨rfl, rfl⟩
theorem mark4P (c : Int) (h0 : (c == 40) = false) (h1 : (c == 41) = false) (w : World) : Calls Tryz.prog 211 #[.int .u8 c] w fun e w' => e = .returned (.int .i64 4) ∧ w = w' := by
 go_enter Tryz.func211, Tryz.ntmps211
 go_wp2
 go_ret
 exact ⟨rfl, rfl⟩
def strT (p : Int) (b r : List UInt8) : Sc Tk := if 200 < b.length then .bad 2 p else .ok ⟨7, p, [], b, []⟩ r
theorem strT_r {p : Int} {b r r' : List UInt8} {t : Tk} (h : strT p b r = .ok t r') : r' = r := by
 unfold strT at h
 split at h
 · simp at h
 · simp at h; exact h.2.symm
theorem int_ne {c : UInt8} (d : UInt8) (h : ¬ c = d) : ((c.toNat : Int) == (d.toNat : Int)) = false := by rw [byte_eq, beq_eq_false_iff_ne]; exact h
theorem int_eq {c : UInt8} (d : UInt8) (h : c = d) : ((c.toNat : Int) == (d.toNat : Int)) = true := by rw [h]; exact beq_self_eq_true _
theorem one_of (ok : List UInt8 → Bool) (num : Bool → List UInt8 → List UInt8 → List UInt8 × List UInt8) (size : List UInt8 → Nat) (s : ByteArray) {i : Nat} (hi : i < s.size) :
 oneL ok num size s.size s[i] ((LA s).drop (i + 1)) =
 if s[i] = 40 then .ok ⟨1, i, [], [], []⟩ ((LA s).drop (i + 1)) else if s[i] = 41 then .ok ⟨2, i, [], [], []⟩ ((LA s).drop (i + 1)) else if s[i] = 39 then .ok ⟨4, i, [], [], []⟩ ((LA s).drop (i + 1)) else
 if s[i] = 34 then (match encL s.size 34 [] ((LA s).drop (i + 1)) with | .bad e p => .bad e p | .ok b r => strT i b r) else
 if s[i] = 124 then (match encL s.size 124 [] ((LA s).drop (i + 1)) with | .bad e p => .bad e p | .ok b r => symT ok i [] b r) else
 if conB s[i] then wordT ok num size s.size ((LA s).drop i) else .bad 12 i := by
 rw [← posL_drop s (Nat.le_of_lt hi), la_drop hi]
 rfl
theorem tokenP (w : World) (g : Nat) (s : ByteArray) (i : Nat) (h : Scn w g s i) (hi : i < s.size) (hs : s.size ≤ 6000) :
 Calls Tryz.prog 158 #[.pointer (some ⟨g, 0, none⟩)] w (OutT w g s (oneL okP numP sizP s.size s[i] ((LA s).drop (i + 1)))) := by
 have HG := qh9 h.lt
 have HT := qh9 (TB.new w #[.int .i64 0, .int .i64 0, .string ⟨#[]⟩, .string ⟨#[]⟩, .string ⟨#[]⟩])
 have HE := qh9 (ScW.alloc h (.cells #[.int .i64 0, .int .i64 0, .string ⟨#[]⟩, .string ⟨#[]⟩, .string ⟨#[]⟩] 157))
 have c1 := h.of (Below.alloc (Below.refl _ _) (Nat.le_refl _) (.cells #[.int .i64 0, .int .i64 0, .string ⟨#[]⟩, .string ⟨#[]⟩, .string ⟨#[]⟩] 157)) |>.c1
 have C : Hid (∀ m, Calls Tryz.prog 207 #[.pointer (some ⟨g, 0, none⟩)] ((w.alloc (.cells #[.int .i64 0, .int .i64 0, .string ⟨#[]⟩, .string ⟨#[]⟩, .string ⟨#[]⟩] 157)).drewN m) (Sy.QuietY ((w.alloc (.cells #[.int .i64 0, .int .i64 0, .string ⟨#[]⟩, .string ⟨#[]⟩, .string ⟨#[]⟩] 157)).drewN m) (.int .u8 (s[i].toNat : Int)))) := fun m => peekP _ g s i ((HE.out.1).drewN m) hi
 rw [one_of _ _ _ s hi]
 clear h
 by_cases h40 : s[i] = 40
 · rw [if_pos h40]
   have e40 : ((s[i].toNat : Int) == 40) = true := int_eq 40 h40
   clear h40
   go_enter Tryz.func158, Tryz.ntmps158
   go_wp2_with fail
   go_quiet ((go_at_call 207; exact Calls.quiet_of (C.out _)))
   clear c1
   replace HE := qh9 (HE.out.q ⟨nq, rfl⟩)
   replace HT := qh9 (HT.out.keep (q_below ⟨nq, rfl⟩))
   generalize World.drewN (w.alloc (.cells #[.int .i64 0, .int .i64 0, .string ⟨#[]⟩, .string ⟨#[]⟩, .string ⟨#[]⟩] 157)) nq = w1 at HE HT ⊢
   have c1 := HE.out.1.c1
   have cf := HE.out.1.fr
   go_wp2_with fail
   clear c1 cf
   replace HE := qh9 (HE.out.set ((i : Int) + 1) (i + 1) (by go_num))
   replace HT : Hid (TB (w1.setCell ⟨g, 1, none⟩ (.int .i64 ((i : Int) + 1))) w.heap.size #[.int .i64 0, .int .i64 0, .string ⟨#[]⟩, .string ⟨#[]⟩, .string ⟨#[]⟩]) := HT.out.but (But.set w1 1 _) (by have := HG.out; omega)
   refine (mark1P _ e40 _).mono ?_
   rintro e w2 ⟨rfl, rfl⟩
   go_wp2_with (refine TB.store (.tmp 2) (.tmp 32) rfl rfl w.heap.size ⟨1, (i : Int), [], [], []⟩ _ rfl rfl rfl HT.out ?_)
   exact retTk rfl rfl (HT.out.set _) (OutT.ok_ (show i + 1 ≤ s.size from hi) rfl (HE.out.row _ HG.out (Nat.le_refl _)))
 rw [if_neg h40]
 by_cases h41 : s[i] = 41
 · rw [if_pos h41]
   have e40 : ((s[i].toNat : Int) == 40) = false := int_ne 40 h40
   have e41 : ((s[i].toNat : Int) == 41) = true := int_eq 41 h41
   clear h40 h41
   go_enter Tryz.func158, Tryz.ntmps158
   go_wp2_with fail
   go_quiet ((go_at_call 207; exact Calls.quiet_of (C.out _)))
   clear c1
   replace HE := qh9 (HE.out.q ⟨nq, rfl⟩)
   replace HT := qh9 (HT.out.keep (q_below ⟨nq, rfl⟩))
   generalize World.drewN (w.alloc (.cells #[.int .i64 0, .int .i64 0, .string ⟨#[]⟩, .string ⟨#[]⟩, .string ⟨#[]⟩] 157)) nq = w1 at HE HT ⊢
   have c1 := HE.out.1.c1
   have cf := HE.out.1.fr
   go_wp2_with fail
   clear c1 cf
   replace HE := qh9 (HE.out.set ((i : Int) + 1) (i + 1) (by go_num))
   replace HT : Hid (TB (w1.setCell ⟨g, 1, none⟩ (.int .i64 ((i : Int) + 1))) w.heap.size #[.int .i64 0, .int .i64 0, .string ⟨#[]⟩, .string ⟨#[]⟩, .string ⟨#[]⟩]) := HT.out.but (But.set w1 1 _) (by have := HG.out; omega)
   refine (mark2P _ e40 e41 _).mono ?_
   rintro e w2 ⟨rfl, rfl⟩
   go_wp2_with (refine TB.store (.tmp 2) (.tmp 32) rfl rfl w.heap.size ⟨2, (i : Int), [], [], []⟩ _ rfl rfl rfl HT.out ?_)
   exact retTk rfl rfl (HT.out.set _) (OutT.ok_ (show i + 1 ≤ s.size from hi) rfl (HE.out.row _ HG.out (Nat.le_refl _)))
 rw [if_neg h41]
 by_cases h39 : s[i] = 39
 · rw [if_pos h39]
   have e40 : ((s[i].toNat : Int) == 40) = false := int_ne 40 h40
   have e41 : ((s[i].toNat : Int) == 41) = false := int_ne 41 h41
   have e39 : ((s[i].toNat : Int) == 39) = true := int_eq 39 h39
   clear h40 h41 h39
   go_enter Tryz.func158, Tryz.ntmps158
   go_wp2_with fail
   go_quiet ((go_at_call 207; exact Calls.quiet_of (C.out _)))
   clear c1
   replace HE := qh9 (HE.out.q ⟨nq, rfl⟩)
   replace HT := qh9 (HT.out.keep (q_below ⟨nq, rfl⟩))
   generalize World.drewN (w.alloc (.cells #[.int .i64 0, .int .i64 0, .string ⟨#[]⟩, .string ⟨#[]⟩, .string ⟨#[]⟩] 157)) nq = w1 at HE HT ⊢
   have c1 := HE.out.1.c1
   have cf := HE.out.1.fr
   go_wp2_with fail
   clear c1 cf
   replace HE := qh9 (HE.out.set ((i : Int) + 1) (i + 1) (by go_num))
   replace HT : Hid (TB (w1.setCell ⟨g, 1, none⟩ (.int .i64 ((i : Int) + 1))) w.heap.size #[.int .i64 0, .int .i64 0, .string ⟨#[]⟩, .string ⟨#[]⟩, .string ⟨#[]⟩]) := HT.out.but (But.set w1 1 _) (by have := HG.out; omega)
   refine (mark4P _ e40 e41 _).mono ?_
   rintro e w2 ⟨rfl, rfl⟩
   go_wp2_with (refine TB.store (.tmp 2) (.tmp 32) rfl rfl w.heap.size ⟨4, (i : Int), [], [], []⟩ _ rfl rfl rfl HT.out ?_)
   exact retTk rfl rfl (HT.out.set _) (OutT.ok_ (show i + 1 ≤ s.size from hi) rfl (HE.out.row _ HG.out (Nat.le_refl _)))
 rw [if_neg h39]
 have e40 : ((s[i].toNat : Int) == 40) = false := int_ne 40 h40
 have e41 : ((s[i].toNat : Int) == 41) = false := int_ne 41 h41
 have e39 : ((s[i].toNat : Int) == 39) = false := int_ne 39 h39
 clear h40 h41 h39
 by_cases h34 : s[i] = 34
 · rw [if_pos h34]
   have e34 : ((s[i].toNat : Int) == 34) = true := int_eq 34 h34
   clear h34
   have KB : Hid (∀ w, Scn w g s i → Calls Tryz.prog 213 #[.pointer (some ⟨g, 0, none⟩), .int .u8 34] w (OutB w g s (encL s.size 34 [] ((LA s).drop (i + 1))))) := fun w h => betweenP w g s i 34 h hi hs
   cases hRN : encL s.size 34 [] ((LA s).drop (i + 1)) with
   | bad x p =>
    rw [hRN] at KB
    clear hRN
    show Calls _ _ _ _ (OutT w g s (.bad x p))
    go_enter Tryz.func158, Tryz.ntmps158
    go_wp2_with fail
    go_quiet ((go_at_call 207; exact Calls.quiet_of (C.out _)))
    clear c1
    replace HE := qh9 (HE.out.q ⟨nq, rfl⟩)
    replace HT := qh9 (HT.out.keep (q_below ⟨nq, rfl⟩))
    generalize World.drewN (w.alloc (.cells #[.int .i64 0, .int .i64 0, .string ⟨#[]⟩, .string ⟨#[]⟩, .string ⟨#[]⟩] 157)) nq = w1 at HE HT ⊢
    go_wp2_with fail
    refine (KB.out _ HE.out.1).mono ?_
    rintro e w3 ⟨rfl, hb⟩
    exact ⟨rfl, rfl, HE.out.2.trans hb⟩
   | ok b r =>
    rw [hRN] at KB
    clear hRN
    show Calls _ _ _ _ (OutT w g s (strT (i : Int) b r))
    have KS : Hid (∀ w, Calls Tryz.prog 212 #[.int .i64 (i : Int), .string (BA b)] w (OutK w (strT (i : Int) b r))) := fun w => stringTokenP (i : Int) b r w
    cases hTT : strT (i : Int) b r with
    | bad x p =>
     rw [hTT] at KS
     clear hTT
     go_enter Tryz.func158, Tryz.ntmps158
     go_wp2_with fail
     go_quiet ((go_at_call 207; exact Calls.quiet_of (C.out _)))
     clear c1
     replace HE := qh9 (HE.out.q ⟨nq, rfl⟩)
     replace HT := qh9 (HT.out.keep (q_below ⟨nq, rfl⟩))
     generalize World.drewN (w.alloc (.cells #[.int .i64 0, .int .i64 0, .string ⟨#[]⟩, .string ⟨#[]⟩, .string ⟨#[]⟩] 157)) nq = w1 at HE HT ⊢
     go_wp2_with fail
     refine (KB.out _ HE.out.1).mono ?_
     rintro e w3 ⟨j3, hj3, hr3, rfl, hsc, hb⟩
     replace HE := qh9 (HE.out.next hsc hb)
     replace HT := qh9 (HT.out.but hb (by have := HG.out; omega))
     have HR4 := qh9 hr3
     clear hsc hb hr3
     go_wp2_with fail
     refine (KS.out _).mono ?_
     rintro e w8 ⟨hb, he⟩
     replace he : e = _ := he
     subst he
     exact ⟨rfl, rfl, HE.out.2.trans (But.of hb)⟩
    | ok t r9 =>
     obtain rfl := strT_r hTT
     rw [hTT] at KS
     clear hTT
     go_enter Tryz.func158, Tryz.ntmps158
     go_wp2_with fail
     go_quiet ((go_at_call 207; exact Calls.quiet_of (C.out _)))
     clear c1
     replace HE := qh9 (HE.out.q ⟨nq, rfl⟩)
     replace HT := qh9 (HT.out.keep (q_below ⟨nq, rfl⟩))
     generalize World.drewN (w.alloc (.cells #[.int .i64 0, .int .i64 0, .string ⟨#[]⟩, .string ⟨#[]⟩, .string ⟨#[]⟩] 157)) nq = w1 at HE HT ⊢
     go_wp2_with fail
     refine (KB.out _ HE.out.1).mono ?_
     rintro e w3 ⟨j3, hj3, hr3, rfl, hsc, hb⟩
     replace HE := qh9 (HE.out.next hsc hb)
     replace HT := qh9 (HT.out.but hb (by have := HG.out; omega))
     have HR4 := qh9 hr3
     clear hsc hb hr3
     go_wp2_with fail
     refine (KS.out _).mono ?_
     rintro e w8 ⟨hb, he⟩
     replace he : e = _ := he
     subst he
     replace HE := qh9 (HE.out.bel hb)
     replace HT := qh9 (HT.out.keep hb)
     clear hb
     go_wp2_with (refine TB.store (.tmp 2) (.tmp 39) rfl rfl w.heap.size t _ rfl rfl rfl HT.out ?_)
     exact retTk rfl rfl (HT.out.set _) (OutT.ok_ hj3 HR4.out (HE.out.row _ HG.out (Nat.le_refl _)))
 rw [if_neg h34]
 have e34 : ((s[i].toNat : Int) == 34) = false := int_ne 34 h34
 clear h34
 by_cases h124 : s[i] = 124
 · rw [if_pos h124]
   have e124 : ((s[i].toNat : Int) == 124) = true := int_eq 124 h124
   clear h124
   have KB : Hid (∀ w, Scn w g s i → Calls Tryz.prog 213 #[.pointer (some ⟨g, 0, none⟩), .int .u8 124] w (OutB w g s (encL s.size 124 [] ((LA s).drop (i + 1))))) := fun w h => betweenP w g s i 124 h hi hs
   cases hRN : encL s.size 124 [] ((LA s).drop (i + 1)) with
   | bad x p =>
    rw [hRN] at KB
    clear hRN
    show Calls _ _ _ _ (OutT w g s (.bad x p))
    go_enter Tryz.func158, Tryz.ntmps158
    go_wp2_with fail
    go_quiet ((go_at_call 207; exact Calls.quiet_of (C.out _)))
    clear c1
    replace HE := qh9 (HE.out.q ⟨nq, rfl⟩)
    replace HT := qh9 (HT.out.keep (q_below ⟨nq, rfl⟩))
    generalize World.drewN (w.alloc (.cells #[.int .i64 0, .int .i64 0, .string ⟨#[]⟩, .string ⟨#[]⟩, .string ⟨#[]⟩] 157)) nq = w1 at HE HT ⊢
    go_wp2_with fail
    refine (KB.out _ HE.out.1).mono ?_
    rintro e w3 ⟨rfl, hb⟩
    exact ⟨rfl, rfl, HE.out.2.trans hb⟩
   | ok b r =>
    rw [hRN] at KB
    clear hRN
    show Calls _ _ _ _ (OutT w g s (symT okP (i : Int) [] b r))
    have KS : Hid (∀ w, Calls Tryz.prog 214 #[.int .i64 (i : Int), .string ⟨#[]⟩, .string (BA b)] w (OutK w (symT okP (i : Int) [] b r))) := fun w => symbolTokenP (i : Int) [] b r w
    cases hTT : symT okP (i : Int) [] b r with
    | bad x p =>
     rw [hTT] at KS
     clear hTT
     go_enter Tryz.func158, Tryz.ntmps158
     go_wp2_with fail
     go_quiet ((go_at_call 207; exact Calls.quiet_of (C.out _)))
     clear c1
     replace HE := qh9 (HE.out.q ⟨nq, rfl⟩)
     replace HT := qh9 (HT.out.keep (q_below ⟨nq, rfl⟩))
     generalize World.drewN (w.alloc (.cells #[.int .i64 0, .int .i64 0, .string ⟨#[]⟩, .string ⟨#[]⟩, .string ⟨#[]⟩] 157)) nq = w1 at HE HT ⊢
     go_wp2_with fail
     refine (KB.out _ HE.out.1).mono ?_
     rintro e w3 ⟨j3, hj3, hr3, rfl, hsc, hb⟩
     replace HE := qh9 (HE.out.next hsc hb)
     replace HT := qh9 (HT.out.but hb (by have := HG.out; omega))
     have HR4 := qh9 hr3
     clear hsc hb hr3
     go_wp2_with fail
     refine (KS.out _).mono ?_
     rintro e w8 ⟨hb, he⟩
     replace he : e = _ := he
     subst he
     exact ⟨rfl, rfl, HE.out.2.trans (But.of hb)⟩
    | ok t r9 =>
     obtain rfl := symT_r okP hTT
     rw [hTT] at KS
     clear hTT
     go_enter Tryz.func158, Tryz.ntmps158
     go_wp2_with fail
     go_quiet ((go_at_call 207; exact Calls.quiet_of (C.out _)))
     clear c1
     replace HE := qh9 (HE.out.q ⟨nq, rfl⟩)
     replace HT := qh9 (HT.out.keep (q_below ⟨nq, rfl⟩))
     generalize World.drewN (w.alloc (.cells #[.int .i64 0, .int .i64 0, .string ⟨#[]⟩, .string ⟨#[]⟩, .string ⟨#[]⟩] 157)) nq = w1 at HE HT ⊢
     go_wp2_with fail
     refine (KB.out _ HE.out.1).mono ?_
     rintro e w3 ⟨j3, hj3, hr3, rfl, hsc, hb⟩
     replace HE := qh9 (HE.out.next hsc hb)
     replace HT := qh9 (HT.out.but hb (by have := HG.out; omega))
     have HR4 := qh9 hr3
     clear hsc hb hr3
     go_wp2_with fail
     refine (KS.out _).mono ?_
     rintro e w8 ⟨hb, he⟩
     replace he : e = _ := he
     subst he
     replace HE := qh9 (HE.out.bel hb)
     replace HT := qh9 (HT.out.keep hb)
     clear hb
     go_wp2_with (refine TB.store (.tmp 2) (.tmp 46) rfl rfl w.heap.size t _ rfl rfl rfl HT.out ?_)
     exact retTk rfl rfl (HT.out.set _) (OutT.ok_ hj3 HR4.out (HE.out.row _ HG.out (Nat.le_refl _)))
 rw [if_neg h124]
 have e124 : ((s[i].toNat : Int) == 124) = false := int_ne 124 h124
 clear h124
 cases hc : conB s[i] with
 | true =>
  rw [if_pos rfl]
  have HC := qh9 hc
  clear hc
  have KW := qh9 (fun w h => wordTokenP w g s i h hi hs)
  cases hR : wordT okP numP sizP s.size ((LA s).drop i) with
  | bad x p =>
   rw [hR] at KW
   clear hR
   go_enter Tryz.func158, Tryz.ntmps158
   go_wp2_with fail
   go_quiet ((go_at_call 207; exact Calls.quiet_of (C.out _)))
   clear c1
   replace HE := qh9 (HE.out.q ⟨nq, rfl⟩)
   replace HT := qh9 (HT.out.keep (q_below ⟨nq, rfl⟩))
   generalize World.drewN (w.alloc (.cells #[.int .i64 0, .int .i64 0, .string ⟨#[]⟩, .string ⟨#[]⟩, .string ⟨#[]⟩] 157)) nq = w1 at HE HT ⊢
   go_wp2_with fail
   refine (isConP s[i] _).mono ?_
   rintro e w2 ⟨rfl, rfl⟩
   rw [HC.out]
   go_wp2_with fail
   refine (KW.out _ HE.out.1).mono ?_
   rintro e w3 ⟨rfl, hb⟩
   exact ⟨rfl, rfl, HE.out.2.trans hb⟩
  | ok t r =>
   rw [hR] at KW
   clear hR
   go_enter Tryz.func158, Tryz.ntmps158
   go_wp2_with fail
   go_quiet ((go_at_call 207; exact Calls.quiet_of (C.out _)))
   clear c1
   replace HE := qh9 (HE.out.q ⟨nq, rfl⟩)
   replace HT := qh9 (HT.out.keep (q_below ⟨nq, rfl⟩))
   generalize World.drewN (w.alloc (.cells #[.int .i64 0, .int .i64 0, .string ⟨#[]⟩, .string ⟨#[]⟩, .string ⟨#[]⟩] 157)) nq = w1 at HE HT ⊢
   go_wp2_with fail
   refine (isConP s[i] _).mono ?_
   rintro e w2 ⟨rfl, rfl⟩
   rw [HC.out]
   go_wp2_with fail
   refine (KW.out _ HE.out.1).mono ?_
   rintro e w3 ⟨j3, hj3, hr3, rfl, hsc, hb⟩
   replace HE := qh9 (HE.out.next hsc hb)
   replace HT := qh9 (HT.out.but hb (by have := HG.out; omega))
   have HR4 := qh9 hr3
   clear hsc hb hr3
   go_wp2_with (refine TB.store (.tmp 2) (.tmp 51) rfl rfl w.heap.size t _ rfl rfl rfl HT.out ?_)
   exact retTk rfl rfl (HT.out.set _) (OutT.ok_ hj3 HR4.out (HE.out.row _ HG.out (Nat.le_refl _)))
 | false =>
  rw [if_neg (by simp)]
  have HC := qh9 hc
  clear hc
  go_enter Tryz.func158, Tryz.ntmps158
  go_wp2_with fail
  go_quiet ((go_at_call 207; exact Calls.quiet_of (C.out _)))
  clear c1
  replace HE := qh9 (HE.out.q ⟨nq, rfl⟩)
  replace HT := qh9 (HT.out.keep (q_below ⟨nq, rfl⟩))
  generalize World.drewN (w.alloc (.cells #[.int .i64 0, .int .i64 0, .string ⟨#[]⟩, .string ⟨#[]⟩, .string ⟨#[]⟩] 157)) nq = w1 at HE HT ⊢
  go_wp2_with fail
  refine (isConP s[i] _).mono ?_
  rintro e w2 ⟨rfl, rfl⟩
  rw [HC.out]
  go_wp2_with fail
  refine (reportP 12 _ w1 g).mono ?_
  rintro e w2 ⟨rfl, hb⟩
  exact ⟨rfl, rfl, HE.out.2.trans hb⟩
namespace Sy
def chkImp (l : List Pg) (pre : List Sy) (s : Sy) : Int := if symOk s.1 s.2 = true then (if homeM l s = true then (if (impM pre s.2).isSome = true then 4 else 0) else 13) else 3
def chkL (l : List Pg) : List Sy → List Sy → Int
 | _, [] => 0
 | pre, s :: r => if chkImp l pre s = 0 then chkL l (pre ++ [s]) r else chkImp l pre s
def chkPkg (l : List Pg) (p : Pg) : Int := if pkgOk p.1 = true then (if (findM l p.1).isSome = true then 4 else if 200 < p.2.length then 2 else chkL l [] p.2) else 3
def defineM (l : List Pg) (p : Pg) : List Pg × Int := if chkPkg l p = 0 then (l ++ [p], 0) else ([], chkPkg l p)
theorem chkL_at {l : List Pg} {q : List Sy} {i : Nat} (hi : i < q.length) : chkL l (q.take i) (q.drop i) = if chkImp l (q.take i) q[i] = 0 then chkL l (q.take (i + 1)) (q.drop (i + 1)) else chkImp l (q.take i) q[i] := by
 rw [List.drop_eq_getElem_cons hi]
 conv => lhs; unfold chkL
 rw [List.take_append_getElem hi]
def ChkW (w wr : World) (g : Nat) (n : ByteArray) (u : Value) (l : List Pg) (q : List Sy) (i : Nat) (R : Int) : Prop :=
 chkL l (q.take i) (q.drop i) = R ∧ Below w.heap.size w wr ∧ PB wr g (.string n) u
end Sy
end Go.Proofs.YtlocnkobancjmaaGreatDoor
