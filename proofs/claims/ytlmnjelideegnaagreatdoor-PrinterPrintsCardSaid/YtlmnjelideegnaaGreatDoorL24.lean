import Derived.Test.YtlmnjelideegnaaGreatDoorCl
import Derived.Test.YtlmnjelideegnaaGreatDoorL16
import Derived.Test.YtlmnjelideegnaaGreatDoorL23
import Derived.Test.YtlmnjelideegnaaGreatDoorL18
import Derived.Deep.RegionWith
import Derived.Test.YtlmnjelideegnaaGreatDoorL14
import Derived.Test.YtlmnjelideegnaaGreatDoorL11
namespace Go.Proofs.YtlmnjelideegnaaGreatDoor
open Go Go.RowKit
set_option linter.unusedVariables false
set_option maxHeartbeats 32000000
set_option maxRecDepth 100000
theorem flatT_cons (t : Tk) (r : List Tk) : flatT (t :: r) = (tkC t).toList ++ flatT r := by unfold flatT; simp
def ObB (W : World) (g : Nat) (x : Array Value) : Prop := W.heap[g]? = some (.cells x 39 (0, 0))
/-- The text of a symbol in a package. -/
def nmU (l : List Sy.Pg) (cur : ByteArray) (p n : List UInt8) : List UInt8 := if Sy.visM l cur (BA p, BA n) then wordS n false else p ++ 58 :: 58 :: wordS n true
theorem okU_con {c : UInt8} (h : Sy.okU c = true) : conB c = true := by
 have key : ∀ k : Nat, k < 256 → Sy.okU (UInt8.ofNat k) = true → conB (UInt8.ofNat k) = true := by
  have : ∀ k : Fin 256, Sy.okU (UInt8.ofNat k.1) = true → conB (UInt8.ofNat k.1) = true := by decide
  exact fun k hk => this ⟨k, hk⟩
 have e : UInt8.ofNat c.toNat = c := by simp
 have hl := c.toNat_lt
 rw [← e] at h ⊢
 exact key c.toNat hl h
theorem bl_BA (l : List UInt8) : Sy.bl (BA l) = l := rfl
theorem pkgOk_facts {p : List UInt8} (h : Sy.pkgOk (BA p) = true) : p ≠ [] ∧ p.all conB = true ∧ p.length ≤ 40 := by
 unfold Sy.pkgOk Sy.nameOk at h
 simp only [Bool.and_eq_true, decide_eq_true_eq, bl_BA] at h
 obtain ⟨⟨h1, h2⟩, h3, h4⟩ := h
 rw [BA_size] at h1 h2
 refine ⟨?_, ?_, h2⟩
 · intro e; rw [e] at h1; simp at h1
 · rw [List.all_eq_true] at h4 ⊢
   exact fun c hc => okU_con (h4 c hc)
theorem nameOk_facts {n : List UInt8} (h : Sy.nameOk (BA n) = true) : n ≠ [] ∧ n.length ≤ 40 := by
 unfold Sy.nameOk at h
 simp only [Bool.and_eq_true, decide_eq_true_eq] at h
 rw [BA_size] at h
 refine ⟨?_, h.2⟩
 intro e; rw [e] at h; simp at h
theorem encL_bad (n : Nat) (m : UInt8) : ∀ (l acc : List UInt8) (e p : Int), encL n m acc l = .bad e p → e ≠ 0
 | [], acc, e, p, h => by simp [encL] at h; omega
 | [c], acc, e, p, h => by
  rw [encL] at h
  split at h
  · simp at h
  · split at h
    · simp at h; omega
    · simp [encL] at h; omega
 | c :: d :: l', acc, e, p, h => by
  rw [encL] at h
  split at h
  · simp at h
  · split at h
    · split at h
      · exact encL_bad n m l' _ _ _ h
      · simp at h; omega
    · exact encL_bad n m (d :: l') _ _ _ h
section
variable (ok : List UInt8 → Bool) (num : Bool → List UInt8 → List UInt8 → List UInt8 × List UInt8) (size : List UInt8 → Nat)
theorem symT_bad {p : Int} {pkg name r : List UInt8} {e q : Int} (h : symT ok p pkg name r = .bad e q) : e ≠ 0 := by
 unfold symT at h
 repeat' split at h
 all_goals simp at h
 all_goals omega
theorem numT_bad {p : Int} {b : Bool} {x y r : List UInt8} {e q : Int} (h : numT num size p b x y r = .bad e q) : e ≠ 0 := by
 unfold numT at h
 repeat' split at h
 all_goals simp at h
 all_goals omega
theorem nameL_bad {n : Nat} {l : List UInt8} {e q : Int} (h : nameL n l = .bad e q) : e ≠ 0 := by
 cases l with
 | nil => simp [nameL] at h; omega
 | cons c l =>
  rw [nameL] at h
  split at h
  · exact encL_bad _ _ _ _ _ _ h
  · split at h
    · simp at h
    · simp at h; omega
theorem oneL_bad {n : Nat} {c : UInt8} {l : List UInt8} {e q : Int} (h : oneL ok num size n c l = .bad e q) : e ≠ 0 := by
 unfold oneL at h
 split at h
 · simp at h
 split at h
 · simp at h
 split at h
 · simp at h
 split at h
 · split at h
   · rename_i he
     simp at h
     have := encL_bad _ _ _ _ _ _ he
     omega
   · split at h
     · simp at h; omega
     · simp at h
 split at h
 · split at h
   · rename_i he
     simp at h
     have := encL_bad _ _ _ _ _ _ he
     omega
   · exact symT_bad ok h
 split at h
 · unfold wordT at h
   split at h
   · split at h
     · rename_i he
       simp at h
       have := nameL_bad he
       omega
     · exact symT_bad ok h
   · split at h
     · simp at h
     · split at h
       · exact numT_bad num size h
       · exact symT_bad ok h
 · simp at h; omega
theorem toksL_bad (n : Nat) : ∀ (k : Nat) (l : List UInt8) (x : Int × Int), l.length ≤ k → toksL ok num size n l = .error x → x.1 ≠ 0
 | k, l, x, hk, h => by
  rw [toksL_eq] at h
  cases hs : skipL l with
  | none => rw [hs] at h; simp at h; rw [← h]; show (11 : Int) ≠ 0; decide
  | some r =>
   rw [hs] at h
   cases r with
   | nil => simp at h
   | cons c l' =>
    simp only at h
    have h1 := skipL_le hs
    simp only [List.length_cons] at h1
    cases ho : oneL ok num size n c l' with
    | bad e p =>
     rw [ho] at h
     simp at h
     rw [← h]
     exact oneL_bad ok num size ho
    | ok t r =>
     rw [ho] at h
     simp only at h
     have h2 := oneL_le ok num size ho
     cases hr : toksL ok num size n r with
     | ok ts => rw [hr] at h; simp at h
     | error y =>
      rw [hr] at h
      simp at h
      rw [← h]
      cases k with
      | zero => omega
      | succ k => exact toksL_bad n k r y (by omega) hr
theorem toksL_ne {n : Nat} {l : List UInt8} {ts : List Tk} (h : toksL ok num size n l = .ok ts) : ts ≠ [] := by
 rw [toksL_eq] at h
 rintro rfl
 cases hs : skipL l with
 | none => rw [hs] at h; simp at h
 | some r =>
  rw [hs] at h
  cases r with
  | nil => simp at h
  | cons c l' =>
   simp only at h
   cases ho : oneL ok num size n c l' with
   | bad e p => rw [ho] at h; simp at h
   | ok t r =>
    rw [ho] at h
    simp only at h
    cases hr : toksL ok num size n r with
    | ok ts => rw [hr] at h; simp at h
    | error y => rw [hr] at h; simp at h
end
theorem isLetterP (c : Int) (h1 : 97 ≤ c) (h2 : c ≤ 122) (w : World) : Calls Tryz.prog 175 #[.int .u8 c] w fun e w' => e = .returned (.bool true) ∧ w = w' := by
 go_enter Tryz.func175, Tryz.ntmps175
 go_wp2
 go_ret
 exact ⟨rfl, rfl⟩
theorem isNameP (s : ByteArray) (h1 : 1 ≤ s.size) (h2 : s.size ≤ 40) (w : World) : Calls Tryz.prog 146 #[.string s] w fun e w' => e = .returned (.bool true) ∧ w = w' := by
 have h3 : (1 : Int) ≤ (s.size : Int) := by omega
 have h4 : (s.size : Int) ≤ 40 := by omega
 go_enter Tryz.func146, Tryz.ntmps146
 go_wp2
 go_ret
 exact ⟨rfl, rfl⟩
theorem isPackageP (w : World) : Calls Tryz.prog 145 #[.string (BA lispB)] w fun e w' => e = .returned (.bool true) ∧ w = w' := by
 show Calls _ _ #[.string ⟨#[108, 105, 115, 112]⟩] _ _
 go_enter Tryz.func145, Tryz.ntmps145
 go_wp2_with fail
 refine (isNameP ⟨#[108, 105, 115, 112]⟩ (by decide) (by decide) _).mono ?_
 rintro e w' ⟨rfl, rfl⟩
 go_wp2_with fail
 refine (isLetterP 108 (by decide) (by decide) _).mono ?_
 rintro e w' ⟨rfl, rfl⟩
 go_wp2_with fail
 go_loop [15] (fun v => ∃ i : Nat, i ≤ 4 ∧ v = .int .i64 i) (fun v => 4 - (intOf v).toNat)
 case atStart => exact ⟨0, by omega, rfl⟩
 case round =>
  obtain ⟨i, hi, rfl⟩ := hrel
  have h5 : i = 0 ∨ i = 1 ∨ i = 2 ∨ i = 3 ∨ i = 4 := by omega
  rcases h5 with rfl | rfl | rfl | rfl | rfl
  · go_wp2_with fail
    refine (isLetterP 108 (by decide) (by decide) _).mono ?_
    rintro e w' ⟨rfl, rfl⟩
    go_wp2
    go_round
    case rel => exact ⟨1, by omega, rfl⟩
    case measure => simp [intOf]
  · go_wp2_with fail
    refine (isLetterP 105 (by decide) (by decide) _).mono ?_
    rintro e w' ⟨rfl, rfl⟩
    go_wp2
    go_round
    case rel => exact ⟨2, by omega, rfl⟩
    case measure => simp [intOf]
  · go_wp2_with fail
    refine (isLetterP 115 (by decide) (by decide) _).mono ?_
    rintro e w' ⟨rfl, rfl⟩
    go_wp2
    go_round
    case rel => exact ⟨3, by omega, rfl⟩
    case measure => simp [intOf]
  · go_wp2_with fail
    refine (isLetterP 112 (by decide) (by decide) _).mono ?_
    rintro e w' ⟨rfl, rfl⟩
    go_wp2
    go_round
    case rel => exact ⟨4, by omega, rfl⟩
    case measure => simp [intOf]
  · go_wp2
    go_ret
    exact ⟨rfl, rfl⟩
theorem isPackageU (w : World) : Calls Tryz.prog 145 #[.string (BA userB)] w fun e w' => e = .returned (.bool true) ∧ w = w' := by
 show Calls _ _ #[.string ⟨#[117, 115, 101, 114]⟩] _ _
 go_enter Tryz.func145, Tryz.ntmps145
 go_wp2_with fail
 refine (isNameP ⟨#[117, 115, 101, 114]⟩ (by decide) (by decide) _).mono ?_
 rintro e w' ⟨rfl, rfl⟩
 go_wp2_with fail
 refine (isLetterP 117 (by decide) (by decide) _).mono ?_
 rintro e w' ⟨rfl, rfl⟩
 go_wp2_with fail
 go_loop [15] (fun v => ∃ i : Nat, i ≤ 4 ∧ v = .int .i64 i) (fun v => 4 - (intOf v).toNat)
 case atStart => exact ⟨0, by omega, rfl⟩
 case round =>
  obtain ⟨i, hi, rfl⟩ := hrel
  have h5 : i = 0 ∨ i = 1 ∨ i = 2 ∨ i = 3 ∨ i = 4 := by omega
  rcases h5 with rfl | rfl | rfl | rfl | rfl
  · go_wp2_with fail
    refine (isLetterP 117 (by decide) (by decide) _).mono ?_
    rintro e w' ⟨rfl, rfl⟩
    go_wp2
    go_round
    case rel => exact ⟨1, by omega, rfl⟩
    case measure => simp [intOf]
  · go_wp2_with fail
    refine (isLetterP 115 (by decide) (by decide) _).mono ?_
    rintro e w' ⟨rfl, rfl⟩
    go_wp2
    go_round
    case rel => exact ⟨2, by omega, rfl⟩
    case measure => simp [intOf]
  · go_wp2_with fail
    refine (isLetterP 101 (by decide) (by decide) _).mono ?_
    rintro e w' ⟨rfl, rfl⟩
    go_wp2
    go_round
    case rel => exact ⟨3, by omega, rfl⟩
    case measure => simp [intOf]
  · go_wp2_with fail
    refine (isLetterP 114 (by decide) (by decide) _).mono ?_
    rintro e w' ⟨rfl, rfl⟩
    go_wp2
    go_round
    case rel => exact ⟨4, by omega, rfl⟩
    case measure => simp [intOf]
  · go_wp2
    go_ret
    exact ⟨rfl, rfl⟩
theorem isShortP (x : Int) (h : x.natAbs < 10 ^ 90) (w : World) : Calls Tryz.prog 172 #[.string (BA (text x))] w fun e w' => e = .returned (.bool true) ∧ w = w' := by
 have hl := text_length (x := x) (k := 90) h
 have hs : (BA (text x)).size ≤ 92 := by rw [BA_size]; exact hl
 have hv : valid (LA (BA (text x))) = true := by rw [LA_BA]; exact valid_text x
 have hd : ((body (LA (BA (text x)))).length : Int) ≤ 100 := by
  unfold body
  rw [hv, LA_BA]
  have := strip_length (text x)
  simp only [if_true]
  omega
 have V : Hid (∀ w, Calls Tryz.prog 196 #[.string (BA (text x))] w fun e w' => e = .returned (.bool true) ∧ w = w') := fun w => by
  have := valid_any (BA (text x)) w (by unfold maxLen; omega)
  rw [hv] at this
  exact this
 have D : Hid (∀ w, Calls Tryz.prog 195 #[.string (BA (text x))] w fun e w' => e = .returned (.int .i64 ((body (LA (BA (text x)))).length : Nat)) ∧ w = w') := fun w => digits_any _ w (by omega)
 clear h hl hv
 generalize BA (text x) = s at hs hd V D ⊢
 generalize (body (LA s)).length = n at hd D
 go_enter Tryz.func172, Tryz.ntmps172
 go_wp2_with fail
 refine (V.out _).mono ?_
 rintro e w' ⟨rfl, rfl⟩
 go_wp2_with fail
 refine (D.out _).mono ?_
 rintro e w' ⟨rfl, rfl⟩
 go_wp2
 go_ret
 exact ⟨rfl, rfl⟩
theorem isFractionP (x : Int) (h : x.natAbs < 10 ^ 90) (w : World) : Calls Tryz.prog 144 #[.string (BA (text x)), .string ⟨#[49]⟩] w fun e w' => e = .returned (.bool true) ∧ w = w' := by
 have C1 := fun w => isShortP x h w
 have C2 : ∀ w, Calls Tryz.prog 172 #[.string ⟨#[49]⟩] w fun e w' => e = .returned (.bool true) ∧ w = w' := fun w => isShortP 1 (by decide) w
 replace C1 := qh9 C1
 replace C2 := qh9 C2
 clear h
 generalize BA (text x) = s at C1 ⊢
 go_enter Tryz.func144, Tryz.ntmps144
 go_wp2_with fail
 refine (C1.out _).mono ?_
 rintro e w' ⟨rfl, rfl⟩
 go_wp2_with fail
 refine (C2.out _).mono ?_
 rintro e w' ⟨rfl, rfl⟩
 go_wp2
 go_ret
 exact ⟨rfl, rfl⟩
theorem val_zero1 : val (LA ⟨#[48]⟩) = 0 := by decide
theorem isFracQ (q : Rat) (h : Bd 90 q) (w : World) : Calls Tryz.prog 144 #[.string (nt q), .string (dt q)] w (RetB w true) := by
 by_cases hd : q.den = 1
 · have e : dt q = ⟨#[49]⟩ := by unfold dt; rw [hd]; decide
   rw [e]
   exact (isFractionP q.num h.1 w).mono fun e w' hh => ⟨hh.1, hh.2 ▸ Below.refl _ _⟩
 · have s1 := bd_nt h
   have s2 := bd_dt h
   have C1 : Hid (∀ w, Calls Tryz.prog 172 #[.string (nt q)] w fun e w' => e = .returned (.bool true) ∧ w = w') := fun w => isShortP q.num h.1 w
   have C2 : Hid (∀ w, Calls Tryz.prog 172 #[.string (dt q)] w fun e w' => e = .returned (.bool true) ∧ w = w') := fun w => isShortP (q.den : Int) (by rw [Int.natAbs_natCast]; exact h.2) w
   have C3 : Hid (∀ w, Calls Tryz.prog 173 #[.string (dt q), .string ⟨#[48]⟩] w fun e w' => e = .returned (.int .i64 1) ∧ w = w') := fun w => by
    have h3 := compare_any (dt q) ⟨#[48]⟩ w (by omega) (by decide)
    rw [val_dt, val_zero1] at h3
    have : ordI (q.den : Int) 0 = 1 := by
     have := q.den_pos
     unfold ordI
     rw [if_neg (by omega), if_pos (by omega)]
    rw [this] at h3
    exact h3
   have C4 : Hid (∀ w, Calls Tryz.prog 174 #[.string (nt q), .string (dt q)] w fun e w' => e = .returned (.string ⟨#[49]⟩) ∧ Below w.heap.size w w') := fun w => by
    have h4 := gcd_any (nt q) (dt q) w (by omega) (by omega)
    rw [← val_natAbs, ← val_natAbs, val_nt, val_dt, Int.natAbs_natCast, q.reduced.gcd_eq_one] at h4
    exact h4
   have hn : ((dt q).toList == [49]) = false := by
    rw [beq_eq_false_iff_ne]
    intro e
    apply hd
    have e2 : LA (dt q) = [49] := by rw [← e, Lib.toList_data]; rfl
    have := val_dt q
    rw [e2] at this
    have h1 : val [49] = 1 := by decide
    omega
   clear h hd s1 s2
   generalize nt q = nq at *
   generalize dt q = dq at *
   go_enter Tryz.func144, Tryz.ntmps144
   go_wp2_with fail
   refine (C1.out _).mono ?_
   rintro e w' ⟨rfl, rfl⟩
   go_wp2_with fail
   refine (C2.out _).mono ?_
   rintro e w' ⟨rfl, rfl⟩
   go_wp2_with fail
   refine (C3.out _).mono ?_
   rintro e w' ⟨rfl, rfl⟩
   go_wp2_with fail
   refine (C4.out _).mono ?_
   rintro e w' ⟨rfl, hb⟩
   have HB := qh9 hb
   clear hb
   go_wp2
   go_ret
   exact ⟨rfl, HB.out⟩
theorem eqS_self (s1 s2 s3 s4 s5 : ByteArray) : eqS s1 s2 s3 s4 s5 s1 s2 s3 s4 s5 = true := by unfold eqS; simp
theorem hasOnlyP (b k : Nat) (w : World) (x : Int) (s1 s2 s3 s4 s5 : ByteArray) (A : Option Addr) (n c : Nat)
 (l0 : w.cell? ⟨b, k, none⟩ = some (.int .i64 x)) (l1 : w.cell? ⟨b, k + 1, none⟩ = some (.string s1)) (l2 : w.cell? ⟨b, k + 2, none⟩ = some (.string s2)) (l3 : w.cell? ⟨b, k + 3, none⟩ = some (.string s3)) (l4 : w.cell? ⟨b, k + 4, none⟩ = some (.string s4)) (l5 : w.cell? ⟨b, k + 5, none⟩ = some (.string s5)) (l6 : w.cell? ⟨b, k + 6, none⟩ = some (.slice A n c)) :
 Calls Tryz.prog 143 #[.pointer (some ⟨b, k, none⟩), .agg #[.int .i64 0, .string s1, .string s2, .string s3, .string s4, .string s5, .slice A n c]] w (RetB w true) := by
 have hlt := World.block_lt_of_cell? w _ l0
 have hne : ¬ b = w.heap.size := by have : b < w.heap.size := hlt; omega
 have hb0 := Below.alloc (Below.refl w.heap.size w) (Nat.le_refl _) (.cells #[.int .i64 x, .string s1, .string s2, .string s3, .string s4, .string s5, .slice A n c] 39)
 have hg0 := heap_alloc_new w (.cells #[.int .i64 x, .string s1, .string s2, .string s3, .string s4, .string s5, .slice A n c] 39)
 go_enter Tryz.func143, Tryz.ntmps143
 go_wp2_with fail
 have k0 := (hb0.cell (p := ⟨b, k, none⟩) hlt).trans l0
 have k1 := (hb0.cell (p := ⟨b, k + 1, none⟩) hlt).trans l1
 have k2 := (hb0.cell (p := ⟨b, k + 2, none⟩) hlt).trans l2
 have k3 := (hb0.cell (p := ⟨b, k + 3, none⟩) hlt).trans l3
 have k4 := (hb0.cell (p := ⟨b, k + 4, none⟩) hlt).trans l4
 have k5 := (hb0.cell (p := ⟨b, k + 5, none⟩) hlt).trans l5
 have k6 := (hb0.cell (p := ⟨b, k + 6, none⟩) hlt).trans l6
 generalize w.alloc (.cells #[.int .i64 x, .string s1, .string s2, .string s3, .string s4, .string s5, .slice A n c] 39) = W at hb0 hg0 k0 k1 k2 k3 k4 k5 k6 ⊢
 obtain ⟨⟨g0, g1, g2, g3, g4, g5, g6⟩, _⟩ := row7 hg0
 have C : Hid (∀ m, Calls Tryz.prog 171 #[.pointer (some ⟨b, k, none⟩), .pointer (some ⟨w.heap.size, 0, none⟩)] (W.drewN m) (QuietV (W.drewN m) (.bool true))) := fun m => by
  have h := sameRaw b k w.heap.size 0 (W.drewN m) x x s1 s2 s3 s4 s5 s1 s2 s3 s4 s5 k0 k1 k2 k3 k4 k5 g0 g1 g2 g3 g4 g5
  rw [eqS_self] at h
  simpa using h
 have HB := qh9 hb0
 clear l0 l1 l2 l3 l4 l5 l6 k0 k1 k2 k3 k4 k5 g0 g1 g2 g3 g4 g5 hg0 hb0
 go_quiet ((go_at_call 171; exact Calls.quiet_of (C.out _)))
 go_wp2
 go_ret
 exact ⟨rfl, HB.out.trans (⟨rfl, rfl, rfl, Nat.le_refl _, fun _ _ => rfl⟩ : Below w.heap.size W (W.drewN nq))⟩

theorem wellP : ∀ (a : Ob) (b k : Nat) (p : Value) (w : World) (S : Nat → Prop), a.bd 90 → In S w → At w S a b k p →
 Calls Tryz.prog 102 #[.pointer (some ⟨b, k, none⟩)] w (RetB w true) := by
 intro a
 induction a with
 | num q =>
  intro b k p w S hwf hS h
  obtain ⟨x0, x1, x2, x3, x4, x5, e, l0, l1, l2, l3, l4, l5, l6⟩ := h.cells
  obtain rfl := h.2.2.flat rfl
  have hlt : b < w.heap.size := hS b h.1.1
  rw [cellsO_f] at e
  simp only [List.cons.injEq, and_true] at e
  obtain ⟨rfl, rfl, rfl, rfl, rfl, rfl⟩ := e
  have hF : Hid (∀ w, Calls Tryz.prog 144 #[.string (nt q), .string (dt q)] w (RetB w true)) := fun w => isFracQ q hwf w
  have HO : Hid (∀ wd, Below w.heap.size w wd → Calls Tryz.prog 143 #[.pointer (some ⟨b, k, none⟩), .agg #[.int .i64 0, .string (nt q), .string (dt q), .string ⟨#[]⟩, .string ⟨#[]⟩, .string ⟨#[]⟩, .slice none 0 0]] wd (RetB wd true)) := fun wd hb =>
   hasOnlyP b k wd 1 (nt q) (dt q) ⟨#[]⟩ ⟨#[]⟩ ⟨#[]⟩ none 0 0 ((hb.cell (p := ⟨b, k, none⟩) hlt).trans l0) ((hb.cell (p := ⟨b, k + 1, none⟩) hlt).trans l1) ((hb.cell (p := ⟨b, k + 2, none⟩) hlt).trans l2) ((hb.cell (p := ⟨b, k + 3, none⟩) hlt).trans l3) ((hb.cell (p := ⟨b, k + 4, none⟩) hlt).trans l4) ((hb.cell (p := ⟨b, k + 5, none⟩) hlt).trans l5) ((hb.cell (p := ⟨b, k + 6, none⟩) hlt).trans l6)
  have HC : Hid (∀ wd, Below w.heap.size w wd → wd.cell? ⟨b, k + 1, none⟩ = some (.string (nt q)) ∧ wd.cell? ⟨b, k + 2, none⟩ = some (.string (dt q))) := fun wd hb => ⟨(hb.cell (p := ⟨b, k + 1, none⟩) hlt).trans l1, (hb.cell (p := ⟨b, k + 2, none⟩) hlt).trans l2⟩
  have hB0 : Below w.heap.size w w.drew := (Below.refl _ _).drew
  change w.cell? ⟨b, k, none⟩ = some (.int .i64 1) at l0
  change w.cell? ⟨b, k + 1, none⟩ = some (.string (nt q)) at l1
  change w.cell? ⟨b, k + 2, none⟩ = some (.string (dt q)) at l2
  clear l3 l4 l5 l6 h hwf
  generalize nt q = nq at *
  generalize dt q = dq at *
  go_enter Tryz.func102, Tryz.ntmps102
  go_wp2_with fail
  go_region_held3 (fun W' => W'.cell? ⟨b, k + 1, none⟩ = some (.string nq) ∧ W'.cell? ⟨b, k + 2, none⟩ = some (.string dq)) (go_keep)
   (first
     | (go_at_call 143; refine (HO.out _ ‹Below w.heap.size w _›).mono ?_; rintro e w3 ⟨rfl, hb3⟩; have hB3 := chain2 ‹Below w.heap.size w _› hb3 (Nat.le_refl _); obtain ⟨l1, l2⟩ := HC.out _ hB3; clear hb3)
     | (go_at_call 144; refine (hF.out _).mono ?_; rintro e w4 ⟨rfl, hb4⟩; have hB4 := chain2 ‹Below w.heap.size w _› hb4 (Nat.le_refl _); obtain ⟨l1, l2⟩ := HC.out _ hB4; clear hb4))
  all_goals go_wp2
  all_goals go_ret
  all_goals exact ⟨rfl, ‹Below w.heap.size w _›⟩
 | str s =>
  intro b k p w S hwf hS h
  obtain ⟨x0, x1, x2, x3, x4, x5, e, l0, l1, l2, l3, l4, l5, l6⟩ := h.cells
  obtain rfl := h.2.2.flat rfl
  have hlt : b < w.heap.size := hS b h.1.1
  rw [cellsO_f] at e
  simp only [List.cons.injEq, and_true] at e
  obtain ⟨rfl, rfl, rfl, rfl, rfl, rfl⟩ := e
  have hsz : ((BA s).size : Int) ≤ 200 := by rw [BA_size]; have : s.length ≤ 200 := hwf; omega
  change w.cell? ⟨b, k, none⟩ = some (.int .i64 3) at l0
  change w.cell? ⟨b, k + 5, none⟩ = some (.string (BA s)) at l5
  have HO := qh9 (hasOnlyP b k w 3 ⟨#[]⟩ ⟨#[]⟩ ⟨#[]⟩ ⟨#[]⟩ (BA s) none 0 0 l0 l1 l2 l3 l4 l5 l6)
  have HC : Hid (∀ wd, Below w.heap.size w wd → wd.cell? ⟨b, k + 5, none⟩ = some (.string (BA s))) := fun wd hb => (hb.cell (p := ⟨b, k + 5, none⟩) hlt).trans l5
  clear l1 l2 l3 l4 l6 h hwf
  generalize BA s = t at *
  go_enter Tryz.func102, Tryz.ntmps102
  go_wp2_with fail
  refine HO.out.mono ?_
  rintro e w1 ⟨rfl, hb1⟩
  have j5 := HC.out _ hb1
  have HB := qh9 hb1
  clear hb1 l5 l0
  go_wp2
  go_ret
  exact ⟨rfl, HB.out⟩
 | sym s n =>
  intro b k p w S hwf hS h
  obtain ⟨x0, x1, x2, x3, x4, x5, e, l0, l1, l2, l3, l4, l5, l6⟩ := h.cells
  obtain rfl := h.2.2.flat rfl
  have hlt : b < w.heap.size := hS b h.1.1
  rw [cellsO_f] at e
  simp only [List.cons.injEq, and_true] at e
  obtain ⟨rfl, rfl, rfl, rfl, rfl, rfl⟩ := e
  obtain ⟨hpk, hn1, hn2⟩ := hwf
  have hN := fun w => isNameP (BA n) (by rw [BA_size]; exact hn1) (by rw [BA_size]; exact hn2) w
  replace hN := qh9 hN
  have hP : Hid (∀ w, Calls Tryz.prog 145 #[.string (BA s)] w fun e w' => e = .returned (.bool true) ∧ w = w') := by
   rcases hpk with rfl | rfl
   · exact isPackageP
   · exact isPackageU
  change w.cell? ⟨b, k, none⟩ = some (.int .i64 2) at l0
  change w.cell? ⟨b, k + 3, none⟩ = some (.string (BA s)) at l3
  change w.cell? ⟨b, k + 4, none⟩ = some (.string (BA n)) at l4
  have HO := qh9 (hasOnlyP b k w 2 ⟨#[]⟩ ⟨#[]⟩ (BA s) (BA n) ⟨#[]⟩ none 0 0 l0 l1 l2 l3 l4 l5 l6)
  have HC : Hid (∀ wd, Below w.heap.size w wd → wd.cell? ⟨b, k + 3, none⟩ = some (.string (BA s)) ∧ wd.cell? ⟨b, k + 4, none⟩ = some (.string (BA n))) := fun wd hb => ⟨(hb.cell (p := ⟨b, k + 3, none⟩) hlt).trans l3, (hb.cell (p := ⟨b, k + 4, none⟩) hlt).trans l4⟩
  clear l1 l2 l5 l6 h hn1 hn2 hpk
  generalize BA s = t at *
  generalize BA n = t' at *
  go_enter Tryz.func102, Tryz.ntmps102
  go_wp2_with fail
  refine HO.out.mono ?_
  rintro e w1 ⟨rfl, hb1⟩
  obtain ⟨j3, j4⟩ := HC.out _ hb1
  have HB := qh9 hb1
  clear hb1 l0 l3 l4
  go_wp2_with fail
  refine (hP.out _).mono ?_
  rintro e w2 ⟨rfl, rfl⟩
  go_wp2_with fail
  refine (hN.out _).mono ?_
  rintro e w2 ⟨rfl, rfl⟩
  go_wp2
  go_ret
  exact ⟨rfl, HB.out⟩
 | cons a d iha ihd =>
  intro b k p w S hwf hS h
  obtain ⟨x0, x1, x2, x3, x4, x5, e, l0, l1, l2, l3, l4, l5, l6⟩ := h.cells
  obtain ⟨b', o', c', pa, pd, rfl, hc, hA, hD⟩ := h.2.2.parts
  have hlt : b < w.heap.size := hS b h.1.1
  rw [cellsO_f] at e
  simp only [List.cons.injEq, and_true] at e
  obtain ⟨rfl, rfl, rfl, rfl, rfl, rfl⟩ := e
  have CA : Hid (∀ wd, Below w.heap.size w wd → Calls Tryz.prog 102 #[.pointer (some ⟨b', o', none⟩)] wd (RetB wd true)) := fun wd hb => iha b' o' pa wd S hwf.1 (hS.later hb.size) (hA.below hS hb)
  have CD : Hid (∀ wd, Below w.heap.size w wd → Calls Tryz.prog 102 #[.pointer (some ⟨b', o' + 7, none⟩)] wd (RetB wd true)) := fun wd hb => ihd b' (o' + 7) pd wd S hwf.2 (hS.later hb.size) (hD.below hS hb)
  change w.cell? ⟨b, k, none⟩ = some (.int .i64 4) at l0
  have HO := qh9 (hasOnlyP b k w 4 ⟨#[]⟩ ⟨#[]⟩ ⟨#[]⟩ ⟨#[]⟩ ⟨#[]⟩ (some ⟨b', o', none⟩) 2 c' l0 l1 l2 l3 l4 l5 l6)
  have HC : Hid (∀ wd, Below w.heap.size w wd → wd.cell? ⟨b, k + 6, none⟩ = some (.slice (some ⟨b', o', none⟩) 2 c')) := fun wd hb => (hb.cell (p := ⟨b, k + 6, none⟩) hlt).trans l6
  clear l1 l2 l3 l4 l5 h hwf iha ihd hA hD
  go_enter Tryz.func102, Tryz.ntmps102
  go_wp2_with fail
  refine HO.out.mono ?_
  rintro e w1 ⟨rfl, hb1⟩
  have j6 := HC.out _ hb1
  have HB := qh9 hb1
  clear hb1 l0 l6
  go_wp2_with fail
  refine (CA.out _ HB.out).mono ?_
  rintro e w2 ⟨rfl, hb2⟩
  have HB2 := qc9 HB hb2
  have j7 := HC.out _ HB2.out
  clear hb2 j6
  go_wp2_with fail
  refine (CD.out _ HB2.out).mono ?_
  rintro e w3 ⟨rfl, hb3⟩
  have HB3 := qc9 HB2 hb3
  clear hb3 j7
  go_wp2
  go_ret
  exact ⟨rfl, HB3.out⟩

theorem validP (a : Ob) (p : Value) (w : World) (S : Nat → Prop) (hwf : a.bd 90) (hn : a.nodes ≤ 3000) (hS : In S w) (h : Pair w S a p) :
 Calls Tryz.prog 66 #[vO a p] w (RetB w true) := by
 obtain ⟨x0, x1, x2, x3, x4, x5, e⟩ := cells7 a p
 have hb : Below w.heap.size w (w.alloc (.cells #[x0, x1, x2, x3, x4, x5, p] 39)) := Below.alloc (Below.refl _ _) (Nat.le_refl _) _
 have hg := heap_alloc_new w (.cells #[x0, x1, x2, x3, x4, x5, p] 39)
 have hA : At (w.alloc (.cells #[x0, x1, x2, x3, x4, x5, p] 39)) (fun b => S b ∨ b = w.heap.size) a w.heap.size 0 p := by
  refine ⟨⟨.inr rfl, _, _, hg⟩, fun j u hj => ?_, (h.below hS hb).more fun _ h => .inl h⟩
  rw [Nat.zero_add, cell_of_row _ _ _ _ _ _ hg, ← hj, e]
  simp
 have hS' : In (fun b => S b ∨ b = w.heap.size) (w.alloc (.cells #[x0, x1, x2, x3, x4, x5, p] 39)) := fun b hb => by
  rcases hb with hb | rfl
  · have := hS b hb; simp; omega
  · simp
 have N := nodesP a p _ S (hS.later hb.size) (h.below hS hb) hn
 unfold vO at N
 rw [e] at N
 replace N := qh9 N
 have V : Hid (∀ wd, Below (w.heap.size + 1) (w.alloc (.cells #[x0, x1, x2, x3, x4, x5, p] 39)) wd → Calls Tryz.prog 102 #[.pointer (some ⟨w.heap.size, 0, none⟩)] wd (RetB wd true)) := fun wd hb' =>
  wellP a w.heap.size 0 p wd _ hwf (hS'.later hb'.size) (hA.below (B := w.heap.size + 1) (fun b hb => by have := hS' b hb; simpa using this) hb')
 unfold vO
 rw [e]
 have hz : (w.alloc (.cells #[x0, x1, x2, x3, x4, x5, p] 39)).heap.size = w.heap.size + 1 := by simp
 have hnn : (a.nodes : Int) ≤ 3000 := by omega
 clear e hA hS' h hS hg hwf
 go_enter Tryz.func66, Tryz.ntmps66
 go_wp2_with fail
 refine N.out.mono ?_
 rintro e w1 ⟨rfl, hb1⟩
 rw [hz] at hb1
 have V1 := qh9 (V.out _ hb1)
 have HB := qh9 (hb.trans (hb1.mono (by omega)))
 clear hb1 hb V N hz
 go_wp2_with fail
 refine V1.out.mono ?_
 rintro e w2 ⟨rfl, hb2⟩
 have HB2 := qh9 (HB.out.trans (hb2.mono HB.out.size))
 clear hb2
 go_wp2
 go_ret
 exact ⟨rfl, HB2.out⟩
theorem infoO : ∃ i, Tryz.prog.info? 39 = some i ∧ i.zero = some zeroO ∧ i.size = 7 ∧ i.bytes = 112 := info_of (P := Tryz.prog) (t := 39) (z := zeroO) (a := 7) (b := 112) (by kernel_rfl)
theorem newsO {w : World} {cs : Array Value} {t : TypeId} {b : Nat} (hb : b = w.heap.size) : ∀ j u, cs.toList[j]? = some u → (w.alloc (.cells cs t)).cell? ((⟨b, 0, none⟩ : Addr).add j) = some u := by
 intro j u hj
 subst hb
 have e : (Addr.add ⟨w.heap.size, 0, none⟩ j) = ⟨w.heap.size, j, none⟩ := by
  unfold Addr.add
  split
  · rename_i h; rw [h]
  · simp
 rw [e, cell_of_row _ _ _ _ _ _ (heap_alloc_new w _)]
 simpa using hj

theorem objList (k n : Int) (s : ByteArray) (A : Option Addr) (c : Nat) (w : World) (S : Nat → Prop) (hS : In S w) (l : List Rw) (hL : l.length ≤ 6) (hq : k % 8 = 6 ∨ k % 8 = 7) (hk : I64 k) (ht : Tab w)
 (hA : 0 < l.length → ∃ b o, A = some ⟨b, o, none⟩ ∧ S b ∧ RawsAt w S b o l) (hc : l.length ≤ c)
 (KI : ∀ i (hi : i < l.length), ∀ w cs, In S w → RawAt w S l[i] cs → Tab w → Calls Tryz.prog 17 #[.agg cs.toArray] w (RetX w (4 * l[i].cnt - 1))) :
 Calls Tryz.prog 17 #[.agg #[.int .i64 k, .int .i64 n, .string s, .slice A l.length c]] w (RetX w (1 + 4 * Rw.cnts l)) := by
 have HT := qh9 ht
 have HK := qh9 hk
 have HQ := qh9 hq
 have HS := qh9 hS
 have HA := qh9 hA
 have HI := qh9 KI
 clear hk hq ht hS hA KI
 obtain ⟨L, hLL⟩ : ∃ L, l.length = L := ⟨_, rfl⟩
 rw [hLL] at hL hc ⊢
 have HL := qh9 hLL
 clear hLL
 go_enter Tryz.func17, Tryz.ntmps17
 go_wp2_with fail
 have M := MkW.new w #[.int .i64 k, .int .i64 n, .string s, .slice A L c]
 refine (modO k 8 _ HK.out.1 HK.out.2 (by decide) (by decide)).mono ?_
 rintro e w1 ⟨rfl, rfl⟩
 generalize (w.alloc (.cells #[.int .i64 k, .int .i64 n, .string s, .slice A L c] 35)).alloc (.cells #[.int .i64 0, .string ⟨#[]⟩, .string ⟨#[]⟩, .string ⟨#[]⟩, .string ⟨#[]⟩, .string ⟨#[]⟩, .slice none 0 0] 39) = W at M ⊢
 have HM := qh9 M
 clear M
 have hq := HQ.out
 clear HQ
 generalize k % 8 = q at hq ⊢
 have h0 : Hid (MkL W.heap.size W W l 0 (.slice none 0 0) []) := MkL.start W l
 obtain ⟨i0, hi0, hz0, hz1, hz2⟩ := infoO
 have HI0 := qh9 hi0
 have HZ0 := qh9 hz0
 have HZ1 := qh9 hz1
 have HZ2 := qh9 hz2
 clear hi0 hz0 hz1 hz2
 rcases hq with rfl | rfl
 all_goals
  go_wp2_with fail
  go_loopw [3, 4] (fun u v wr => ∃ (i : Nat) (xs : List (Ob × Value)) (sl : Value), sl = u ∧ i ≤ L ∧ v = .int .i64 (i : Int) ∧ Hid (MkL W.heap.size W wr l i sl xs)) (fun _ v _ => L - (intOf v).toNat)
  case atStart => exact ⟨0, [], _, rfl, Nat.zero_le _, rfl, h0⟩
  case round =>
   clear h0
   obtain ⟨i, xs, sl, rfl, hiL, rfl, hE⟩ := hrel
   obtain ⟨wo, rfl⟩ : ∃ wo : World, wo = wr := ⟨_, rfl⟩
   have hbel := hE.out.bel
   have hB := HM.out.below hbel
   have d3 : wo.cell? ⟨w.heap.size, 3, none⟩ = some (.slice A L c) := by rw [cell_of_row _ _ _ _ _ _ hB.2.1]; rfl
   have hWw := HM.out.sz
   have hs1 := hbel.size
   by_cases hlt : i < L
   · have hil : i < l.length := by rw [HL.out]; exact hlt
     obtain ⟨b, o, hAe, hb, hrs⟩ := HA.out (by omega)
     rw [hAe] at d3
     clear hAe
     obtain ⟨cs, hcs, hcell⟩ := hrs.get hil
     have hcs' := hcs.below HS.out hB.1
     have ha0 : b < w.heap.size := HS.out b hb
     obtain ⟨z0, z1, z2, z3, rfl⟩ : ∃ z0 z1 z2 z3, cs = [z0, z1, z2, z3] := by
      generalize l[i] = r at hcs
      cases r with
      | mk k n s l => unfold RawAt at hcs; obtain ⟨A, c, e, _⟩ := hcs; exact ⟨_, _, _, _, e⟩
     have l0 := (hB.1.cell (p := ⟨b, o + i * 4 + 0, none⟩) ha0).trans (hcell 0 z0 rfl)
     have l1 := (hB.1.cell (p := ⟨b, o + i * 4 + 1, none⟩) ha0).trans (hcell 1 z1 rfl)
     have l2 := (hB.1.cell (p := ⟨b, o + i * 4 + 2, none⟩) ha0).trans (hcell 2 z2 rfl)
     have l3 := (hB.1.cell (p := ⟨b, o + i * 4 + 3, none⟩) ha0).trans (hcell 3 z3 rfl)
     rw [Nat.add_zero] at l0
     have call := qh9 (HI.out i hil wo [z0, z1, z2, z3] (HS.out.later hB.1.size) hcs' (HT.out.below hB.1))
     have HIL := qh9 hil
     clear hcell hcs hcs' hrs hbel
     go_wp2_with fail
     refine call.out.mono ?_
     rintro e w3 ⟨a, p, rfl, hp, hb3, ok⟩
     have own3 := qh9 (hE.out.own3 hb3 (.cells (cellsO a p).toArray 39))
     have HSTEP : Hid (∀ v' w4, w4.ownsRow W.heap.size 39 7 v' (i + 1) (flatC xs ++ cellsO a p) → (w3.alloc (.cells (cellsO a p).toArray 39)).grownBy w4 sl.ownBlock → (v'.ownBlock = sl.ownBlock ∨ v'.ownBlock = some (w3.alloc (.cells (cellsO a p).toArray 39)).heap.size) → MkL W.heap.size W w4 l (i + 1) v' (xs ++ [(a, p)])) :=
      fun v' w4 h4 hg hat => hE.out.step rfl hb3 _ HIL.out hp ok h4 hg hat
     have hone : ∀ u ∈ cellsO a p, u.oneCell' = true := by
      have := hp.one
      intro u hu
      rw [Array.all_eq_true_iff_forall_mem] at this
      exact this u (by simpa using hu)
     have hnews : ∀ j u, (cellsO a p)[j]? = some u → (w3.alloc (.cells (cellsO a p).toArray 39)).cell? ((⟨w3.heap.size, 0, none⟩ : Addr).add j) = some u := newsO (cs := (cellsO a p).toArray) rfl
     have hs3 : W.heap.size ≤ (w3.alloc (.cells (cellsO a p).toArray 39)).heap.size := by have := hb3.size; simp; omega
     obtain ⟨x0, x1, x2, x3, x4, x5, ea⟩ := cells7 a p
     rw [ea] at own3 HSTEP hone hnews hs3
     unfold vO
     rw [ea]
     have HONE := qh9 hone
     have HNEWS := qh9 hnews
     clear l0 l1 l2 l3 d3 hp hb3 ok call ea hone hnews hB hs1 hWw
     go_wp2_with (at_builtin; refine wpList_append_own_at _ rfl (.tmp 56) (.tmp 63) _ rfl W.heap.size 39 i0 _ 7 112 Tryz.underlying37 HI0.out HZ0.out HZ1.out HZ2.out rfl (by omega) sl i (flatC xs) rfl own3.out ⟨w3.heap.size, 0, none⟩ 1 1 [x0, x1, x2, x3, x4, x5, p] rfl rfl HNEWS.out HONE.out (by simp only [maxLen]; omega) (by omega) hs3 ?_; intro v4 w4 hown4 hg4 hnil4 hat4; have hst := qh9 (HSTEP.out v4 w4 hown4 hg4 hat4); clear hown4 hg4 hnil4 hat4)
     go_roundw
     case rel => exact ⟨i + 1, _, _, rfl, by omega, by go_num, hst⟩
     case measure => simp [intOf]; omega
   · have hiL2 : i = L := by omega
     have hn : ¬ (i : Int) < L := by omega
     have hbel2 := qh9 hB.1
     have hg2 := qh9 hB.2.2
     have hnod := hE.out.nodes
     rw [hiL2, ← HL.out, List.take_length] at hnod
     have OK : Hid (OkO (1 + 4 * Rw.cnts l) (Ob.list (fsts xs))) := ⟨hE.out.bd, hnod, hE.out.tx⟩
     have hlen : (fsts xs).length = i := by simp [fsts, hE.out.len]
     obtain ⟨A', c', hsl, hc', hA'⟩ := hE.out.slice
     have call := qh9 (listO (fsts xs) A' c' wo (fun b => W.heap.size ≤ b ∧ b < wo.heap.size) (fun b h => h.2) hc' (by omega) hA')
     clear hE
     subst hsl
     have HL2 := qh9 hlen
     clear hlen hc' hA' hnod hB hbel hiL2 hlt
     generalize fsts xs = os at call OK
     go_wp2_with fail
     refine call.out.mono ?_
     rintro e w2 ⟨p, rfl, hp, hb2⟩
     have hs2 := hb2.size
     have hg3 := qh9 ((hb2.block (w.heap.size + 1) (by omega)).trans hg2.out)
     have hbw := qh9 (hbel2.out.trans (hb2.mono (by omega)))
     clear call hb2 d3
     go_wp2_with (refine storeV (w1 := w2) rfl (.tmp 2) (.tmp 66) rfl (w.heap.size + 1) _ _ rfl rfl hp _ _ hg3.out rfl ?_)
     exact retX (q := 2) rfl rfl hg3.out hp (fun h => by
      rcases h with h | h <;> omega) (fun b hb => .inr (by rcases hb with h | h <;> omega)) (by omega) hbw.out OK.out
theorem RetX.le {w w' : World} {m m' : Nat} {e : Ending} (h : RetX w m e w') (hm : m ≤ m') : RetX w m' e w' := by
 obtain ⟨o, p, h1, h2, h3, h4⟩ := h
 exact ⟨o, p, h1, h2, h3, h4.1, Nat.le_trans h4.2 hm, h4.3⟩
def partM (l : List Rw) (i : Nat) : Nat := match l[i]? with
 | some r => 4 * r.cnt - 1
 | none => 1
theorem partM_le : ∀ l : List Rw, 1 + partM l 0 + partM l 1 ≤ 4 * (1 + Rw.cnts l) - 1
 | [] => by simp [partM, Rw.cnts]
 | [a] => by
  have := a.cnt_pos
  simp [partM, Rw.cnts]; omega
 | a :: b :: l => by
  have := a.cnt_pos
  have := b.cnt_pos
  simp [partM, Rw.cnts]; omega

theorem objEmpty (cs : List Value) (w : World) (S : Nat → Prop) (h : RawAt w S (.mk 0 0 ⟨#[]⟩ []) cs) (ht : Tab w) : Calls Tryz.prog 17 #[.agg cs.toArray] w (RetX w 1) := by
 unfold RawAt at h
 obtain ⟨A, c, rfl, hk, hn, _⟩ := h
 exact objInt 0 0 ⟨#[]⟩ A 0 c w 1 (Nat.le_refl _) (.inl rfl) hk hn ht

theorem objectO : ∀ (r : Rw) (cs : List Value) (w : World) (S : Nat → Prop), In S w → RawAt w S r cs → r.ok → Tab w → Calls Tryz.prog 17 #[.agg cs.toArray] w (RetX w (4 * r.cnt - 1)) := by
 intro r
 induction r using Rw.ind with
 | h k n s l ih =>
  intro cs w S hS h hok ht
  have h' := h
  unfold RawAt at h
  obtain ⟨A, c, rfl, hk, hn, hc, hcm, hA⟩ := h
  unfold Rw.ok at hok
  obtain ⟨hs, hl, hoks⟩ := hok
  have hcnt : (Rw.mk k n s l).cnt = 1 + Rw.cnts l := by unfold Rw.cnt; rfl
  rw [hcnt]
  have q0 := Int.emod_nonneg k (show (8 : Int) ≠ 0 by decide)
  have q1 := Int.emod_lt_of_pos k (show (0 : Int) < 8 by decide)
  have hq : k % 8 = 0 ∨ k % 8 = 1 ∨ k % 8 = 2 ∨ k % 8 = 3 ∨ k % 8 = 4 ∨ k % 8 = 5 ∨ k % 8 = 6 ∨ k % 8 = 7 := by omega
  have m1 : 1 ≤ 4 * (1 + Rw.cnts l) - 1 := by omega
  have KP : ∀ i w cs, In S w → RawAt w S (partV (.mk k n s l) i) cs → Tab w → Calls Tryz.prog 17 #[.agg cs.toArray] w (RetX w (partM l i)) := by
   intro i w cs hS hr ht
   have e : partV (.mk k n s l) i = l.getD i (.mk 0 0 ⟨#[]⟩ []) := rfl
   rw [e, List.getD_eq_getElem?_getD] at hr
   unfold partM
   by_cases hi : i < l.length
   · rw [List.getElem?_eq_getElem hi] at hr ⊢
     exact ih l[i] (List.getElem_mem hi) cs w S hS hr (Rw.oks_mem hoks _ (List.getElem_mem hi)) ht
   · rw [List.getElem?_eq_none (by omega)] at hr ⊢
     exact objEmpty cs w S hr ht
  rcases hq with hq | hq | hq | hq | hq | hq | hq | hq
  · exact objInt k n s A l.length c w _ m1 (.inl hq) hk hn ht
  · exact objInt k n s A l.length c w _ m1 (.inr hq) hk hn ht
  · exact objRat k n s A l.length c w _ m1 hq hk hn hs ht
  · exact objSym k n s A l.length c w _ m1 hq hk hn
  · exact objText k n s A l.length c w _ m1 hq hk (by omega)
  · exact (objCons k n s A l.length c w S hS _ (partM l 0) (partM l 1) hq hk ht h' (KP 0) (KP 1)).mono fun _ _ hr => hr.le (partM_le l)
  · exact (objList k n s A c w S hS l hl (.inl hq) hk ht hA hc (fun i hi w cs hS hr ht => ih l[i] (List.getElem_mem hi) cs w S hS hr (Rw.oks_mem hoks _ (List.getElem_mem hi)) ht)).mono fun _ _ hr => hr.le (by omega)
  · exact (objList k n s A c w S hS l hl (.inr hq) hk ht hA hc (fun i hi w cs hS hr ht => ih l[i] (List.getElem_mem hi) cs w S hS hr (Rw.oks_mem hoks _ (List.getElem_mem hi)) ht)).mono fun _ _ hr => hr.le (by omega)

end Go.Proofs.YtlmnjelideegnaaGreatDoor
