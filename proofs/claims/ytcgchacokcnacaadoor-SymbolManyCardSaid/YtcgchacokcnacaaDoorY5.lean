/- Intern, Visible, Home. -/
import Derived.Test.YtcgchacokcnacaaDoorY4
import Derived.Deep.Cut
namespace Go.Proofs.YtcgchacokcnacaaDoor
open Go Go.RowKit
set_option linter.unusedVariables false

theorem findM_mem : ∀ {l : List Pg} {n : ByteArray} {p : Pg}, findM l n = some p → p ∈ l
  | q :: r, n, p, h => by
    unfold findM at h
    split at h
    · injection h with h; subst h; simp
    · exact List.mem_cons_of_mem _ (findM_mem h)
/-- What Intern returns: the symbol, the error's number. -/
def internM (l : List Pg) (cur n : ByteArray) : Sy × Int := match findM l cur with
  | none => ((⟨#[]⟩, ⟨#[]⟩), 13)
  | some p => if nameOk n = true then (match impM p.2 n with
    | some s => (s, 0)
    | none => ((cur, n), 0)) else ((⟨#[]⟩, ⟨#[]⟩), 3)
def RetN (w : World) (r : Sy × Int) (e : Ending) (w' : World) : Prop := e = .returned (.tuple #[.agg #[.string r.1.1, .string r.1.2], .int .i64 r.2]) ∧ Below w.heap.size w w'
theorem nameOk_no {n : ByteArray} (h : nameOk n = false) : (n.size : Int) < 1 ∨ (¬ (n.size : Int) < 1 ∧ 40 < (n.size : Int)) := by
  unfold nameOk at h
  rw [Bool.and_eq_false_iff, decide_eq_false_iff_not, decide_eq_false_iff_not] at h
  omega
theorem nameOk_yes {n : ByteArray} (h : nameOk n = true) : ¬ (n.size : Int) < 1 ∧ ¬ 40 < (n.size : Int) := by
  unfold nameOk at h
  rw [Bool.and_eq_true, decide_eq_true_eq, decide_eq_true_eq] at h
  omega
def IntW (w wr : World) (g g8 : Nat) (p1 : ByteArray) (u : Value) (l : List Sy) (n : ByteArray) (i : Nat) (R : Option Sy) : Prop :=
  impM (l.drop i) n = R ∧ Below w.heap.size w wr ∧ SB wr g (.string ⟨#[]⟩) (.string ⟨#[]⟩) ∧ PB wr g8 (.string p1) u ∧ SyV wr l u
set_option maxHeartbeats 4000000 in
set_option maxRecDepth 100000 in
theorem internY (l : List Pg) (v : Value) (cur n : ByteArray) (w : World) (hv : PgV w l v) (hl : l.length ≤ 1000000) (hi : ∀ p ∈ l, p.2.length ≤ 1000000) : Calls Tryd.prog 9 #[v, .string cur, .string n] w (RetN w (internM l cur n)) := by
  have T := SB.new w (.string ⟨#[]⟩) (.string ⟨#[]⟩)
  have hB0 := Below.alloc (Below.refl w.heap.size w) (Nat.le_refl _) (.cells #[.string ⟨#[]⟩, .string ⟨#[]⟩] 29)
  have CF : Hid (∀ X, Below w.heap.size w X → Calls Tryd.prog 13 #[v, .string cur] X (RetF X (findM l cur))) := fun X hX => findY l v cur X (hv.keep hX) hl
  clear hv
  obtain ⟨r, hr⟩ : ∃ r, internM l cur n = r := ⟨_, rfl⟩
  rw [hr]
  unfold internM at hr
  cases hf : findM l cur with
  | none =>
    rw [hf] at hr CF
    have HR := Lib.hid hr
    clear hr hf hi
    go_enter Tryd.func9, Tryd.ntmps9
    go_wp2_with fail
    generalize w.alloc (.cells #[.string ⟨#[]⟩, .string ⟨#[]⟩] 29) = W0 at T hB0 ⊢
    refine (CF.out W0 hB0).mono ?_
    rintro e w1 ⟨rfl, hb⟩
    have HG := Lib.hid (SB.keep T hb)
    have HB := Lib.hid (chainY hB0 hb (Nat.le_refl _))
    clear hb T hB0
    go_wp2_with ((with_reducible refine SB.store (.tmp 6) (.tmp 20) ?_ ?_ w.heap.size (.string ⟨#[]⟩) (.string ⟨#[]⟩) (.string ⟨#[]⟩) (.string ⟨#[]⟩) ?_ ?_ ?_ ?_ ?_ ?_); rfl; rfl; rfl; rfl; exact (HG.out.keep (Below.alloc (Below.refl _ _) (Nat.le_refl _) _)); rfl; rfl)
    refine retSB rfl rfl rfl ((HG.out.keep (Below.alloc (Below.refl _ _) (Nat.le_refl _) _)).set _ _) ?_
    rw [← HR.out]
    exact ⟨rfl, below_setRow (chainY HB.out (Below.alloc (Below.refl _ _) (Nat.le_refl _) _) (Nat.le_refl _)) (Nat.le_refl _) _⟩
  | some p =>
    have hip := hi p (findM_mem hf)
    rw [hf] at hr CF
    clear hf hi
    cases hn : nameOk n with
    | false =>
      rw [hn] at hr
      replace hr : ((⟨#[]⟩, ⟨#[]⟩), 3) = r := hr
      have HR := Lib.hid hr
      have hno := nameOk_no hn
      clear hr hn
      rcases hno with h1 | ⟨h1, h2⟩
      all_goals
        go_enter Tryd.func9, Tryd.ntmps9
        go_wp2_with fail
        generalize w.alloc (.cells #[.string ⟨#[]⟩, .string ⟨#[]⟩] 29) = W0 at T hB0 ⊢
        refine (CF.out W0 hB0).mono ?_
        rintro e w1 ⟨u, rfl, hu, hb⟩
        have HG := Lib.hid (SB.keep T hb)
        have HB := Lib.hid (chainY hB0 hb (Nat.le_refl _))
        clear hb T hB0
        obtain ⟨A1, c1, rfl, _, _, _⟩ := hu
        go_wp2_with ((with_reducible refine SB.store (.tmp 6) (.tmp 29) ?_ ?_ w.heap.size (.string ⟨#[]⟩) (.string ⟨#[]⟩) (.string ⟨#[]⟩) (.string ⟨#[]⟩) ?_ ?_ ?_ ?_ ?_ ?_); rfl; rfl; rfl; rfl; exact (HG.out.keep (Below.alloc (Below.refl _ _) (Nat.le_refl _) _)); rfl; rfl)
        refine retSB rfl rfl rfl ((HG.out.keep (Below.alloc (Below.refl _ _) (Nat.le_refl _) _)).set _ _) ?_
        rw [← HR.out]
        exact ⟨rfl, below_setRow (chainY HB.out (Below.alloc (Below.refl _ _) (Nat.le_refl _) _) (Nat.le_refl _)) (Nat.le_refl _) _⟩
    | true =>
      rw [hn] at hr
      replace hr : (match impM p.2 n with
        | some s => (s, 0)
        | none => ((cur, n), 0)) = r := hr
      obtain ⟨h1, h2⟩ := nameOk_yes hn
      clear hn
      cases hm : impM p.2 n with
      | none =>
        rw [hm] at hr
        have HR := Lib.hid hr
        have HM := Lib.hid hm
        clear hr hm
        go_enter Tryd.func9, Tryd.ntmps9
        go_wp2_with fail
        generalize w.alloc (.cells #[.string ⟨#[]⟩, .string ⟨#[]⟩] 29) = W0 at T hB0 ⊢
        refine (CF.out W0 hB0).mono ?_
        rintro e w1 ⟨u, rfl, hu, hb⟩
        have HG := Lib.hid (SB.keep T hb)
        have HB := Lib.hid (chainY hB0 hb (Nat.le_refl _))
        have HU := Lib.hid hu
        clear hb T hB0
        obtain ⟨A1, c1, rfl, _, _, _⟩ := hu
        go_wp2_with fail
        refine (importedY p.2 _ n _ (HU.out.keep (Below.alloc (Below.refl _ _) (Nat.le_refl _) _)) hip).mono ?_
        rw [HM.out]
        rintro e w2 ⟨rfl, hb⟩
        replace HB := Lib.hid (chainY (chainY HB.out (Below.alloc (Below.refl _ _) (Nat.le_refl _) _) (Nat.le_refl _)) hb (Nat.le_refl _))
        replace HG := Lib.hid (SB.keep (SB.keep HG.out (Below.alloc (Below.refl _ _) (Nat.le_refl _) _)) hb)
        clear hb HU HM
        go_wp2_with ((with_reducible refine SB.store (.tmp 6) (.tmp 41) ?_ ?_ w.heap.size (.string cur) (.string n) (.string ⟨#[]⟩) (.string ⟨#[]⟩) ?_ ?_ ?_ ?_ ?_ ?_); rfl; rfl; rfl; rfl; exact (HG.out.keep (Below.alloc (Below.refl _ _) (Nat.le_refl _) _)); rfl; rfl)
        refine retSB rfl rfl rfl ((HG.out.keep (Below.alloc (Below.refl _ _) (Nat.le_refl _) _)).set _ _) ?_
        rw [← HR.out]
        exact ⟨rfl, below_setRow (chainY HB.out (Below.alloc (Below.refl _ _) (Nat.le_refl _) _) (Nat.le_refl _)) (Nat.le_refl _) _⟩
      | some s =>
        rw [hm] at hr
        have HR := Lib.hid hr
        have HM := Lib.hid hm
        clear hr hm
        go_enter Tryd.func9, Tryd.ntmps9
        go_wp2_with fail
        generalize w.alloc (.cells #[.string ⟨#[]⟩, .string ⟨#[]⟩] 29) = W0 at T hB0 ⊢
        refine (CF.out W0 hB0).mono ?_
        rintro e w1 ⟨u, rfl, hu, hb⟩
        have HG := Lib.hid (SB.keep T hb)
        have HB := Lib.hid (chainY hB0 hb (Nat.le_refl _))
        have HU := Lib.hid hu
        clear hb T hB0
        obtain ⟨A1, c1, rfl, _, _, _⟩ := hu
        go_wp2_with fail
        refine (importedY p.2 _ n _ (HU.out.keep (Below.alloc (Below.refl _ _) (Nat.le_refl _) _)) hip).mono ?_
        rw [HM.out]
        rintro e w2 ⟨rfl, hb⟩
        replace HB := Lib.hid (chainY (chainY HB.out (Below.alloc (Below.refl _ _) (Nat.le_refl _) _) (Nat.le_refl _)) hb (Nat.le_refl _))
        replace HG := Lib.hid (SB.keep (SB.keep HG.out (Below.alloc (Below.refl _ _) (Nat.le_refl _) _)) hb)
        clear hb HU HM
        obtain ⟨s1, s2⟩ := s
        go_wp2_with ((with_reducible refine SB.store (.tmp 6) (.tmp 38) ?_ ?_ w.heap.size (.string s1) (.string s2) (.string ⟨#[]⟩) (.string ⟨#[]⟩) ?_ ?_ ?_ ?_ ?_ ?_); rfl; rfl; rfl; rfl; exact (HG.out.keep (Below.alloc (Below.refl _ _) (Nat.le_refl _) _)); rfl; rfl)
        refine retSB rfl rfl rfl ((HG.out.keep (Below.alloc (Below.refl _ _) (Nat.le_refl _) _)).set _ _) ?_
        rw [← HR.out]
        exact ⟨rfl, below_setRow (chainY HB.out (Below.alloc (Below.refl _ _) (Nat.le_refl _) _) (Nat.le_refl _)) (Nat.le_refl _) _⟩
/-- Whether the name of a symbol denotes it. -/
def visM (l : List Pg) (cur : ByteArray) (s : Sy) : Bool := (internM l cur s.2).2 == 0 && ((internM l cur s.2).1.1.toList == s.1.toList && (internM l cur s.2).1.2.toList == s.2.toList)
def homeM (l : List Pg) (s : Sy) : Bool := visM l s.1 s
set_option maxHeartbeats 4000000 in
set_option maxRecDepth 100000 in
theorem visibleY (l : List Pg) (v : Value) (cur : ByteArray) (s1 s2 : ByteArray) (w : World) (hv : PgV w l v) (hl : l.length ≤ 1000000) (hi : ∀ p ∈ l, p.2.length ≤ 1000000) : Calls Tryd.prog 15 #[v, .string cur, .agg #[.string s1, .string s2]] w (RetY w (.bool (visM l cur (s1, s2)))) := by
  have T := SB.new w (.string s1) (.string s2)
  have hB0 := Below.alloc (Below.refl w.heap.size w) (Nat.le_refl _) (.cells #[.string s1, .string s2] 29)
  have CI : Hid (∀ X, Below w.heap.size w X → Calls Tryd.prog 9 #[v, .string cur, .string s2] X (RetN X (internM l cur s2))) := fun X hX => internY l v cur s2 X (hv.keep hX) hl hi
  clear hv hi
  unfold visM
  show Calls _ _ _ _ (RetY w (.bool ((internM l cur s2).2 == 0 && ((internM l cur s2).1.1.toList == s1.toList && (internM l cur s2).1.2.toList == s2.toList))))
  generalize internM l cur s2 = r at CI ⊢
  obtain ⟨⟨r1, r2⟩, k⟩ := r
  show Calls _ _ _ _ (RetY w (.bool (k == 0 && (r1.toList == s1.toList && r2.toList == s2.toList))))
  cases hk : (k == 0) with
  | false =>
    go_enter Tryd.func15, Tryd.ntmps15
    go_wp2_with fail
    generalize w.alloc (.cells #[.string s1, .string s2] 29) = W0 at T hB0 ⊢
    have m0 := T.c0
    have m1 := T.c1
    go_wp2_with fail
    refine (CI.out W0 hB0).mono ?_
    rintro e w1 ⟨rfl, hb⟩
    have HT := Lib.hid (SB.keep T hb)
    have HB := Lib.hid (chainY hB0 hb (Nat.le_refl _))
    clear hb T hB0 m0 m1
    go_wp2
    go_ret
    exact ⟨rfl, chainY HB.out (Below.alloc (Below.refl _ _) (Nat.le_refl _) _) (Nat.le_refl _)⟩
  | true =>
    have hk0 : k = 0 := by simpa using hk
    subst hk0
    clear hk
    cases h1 : (r1.toList == s1.toList) with
    | false =>
      go_enter Tryd.func15, Tryd.ntmps15
      go_wp2_with fail
      generalize w.alloc (.cells #[.string s1, .string s2] 29) = W0 at T hB0 ⊢
      have m0 := T.c0
      have m1 := T.c1
      go_wp2_with fail
      refine (CI.out W0 hB0).mono ?_
      rintro e w1 ⟨rfl, hb⟩
      have HT := Lib.hid (SB.keep T hb)
      have HB := Lib.hid (chainY hB0 hb (Nat.le_refl _))
      clear hb T hB0 m0 m1
      go_upto_region 2 with fail
      have HN := Lib.hid (SB.new w1 (.string r1) (.string r2))
      have HT2 : Hid (SB (w1.alloc (.cells #[.string r1, .string r2] 29)) w.heap.size (.string s1) (.string s2)) := HT.out.keep (Below.alloc (Below.refl _ _) (Nat.le_refl _) _)
      have HB2 : Hid (Below w.heap.size w (w1.alloc (.cells #[.string r1, .string r2] 29))) := chainY HB.out (Below.alloc (Below.refl _ _) (Nat.le_refl _) _) (Nat.le_refl _)
      generalize w1.alloc (.cells #[.string r1, .string r2] 29) = X2 at HN HT2 HB2 ⊢
      have k0 := HT2.out.c0
      have k1 := HT2.out.c1
      have j0 := HN.out.c0
      have j1 := HN.out.c1
      go_wp2
      go_ret
      exact ⟨rfl, HB2.out⟩
    | true =>
      cases h2 : (r2.toList == s2.toList) with
      | false =>
        go_enter Tryd.func15, Tryd.ntmps15
        go_wp2_with fail
        generalize w.alloc (.cells #[.string s1, .string s2] 29) = W0 at T hB0 ⊢
        have m0 := T.c0
        have m1 := T.c1
        go_wp2_with fail
        refine (CI.out W0 hB0).mono ?_
        rintro e w1 ⟨rfl, hb⟩
        have HT := Lib.hid (SB.keep T hb)
        have HB := Lib.hid (chainY hB0 hb (Nat.le_refl _))
        clear hb T hB0 m0 m1
        go_upto_region 2 with fail
        have HN := Lib.hid (SB.new w1 (.string r1) (.string r2))
        have HT2 : Hid (SB (w1.alloc (.cells #[.string r1, .string r2] 29)) w.heap.size (.string s1) (.string s2)) := HT.out.keep (Below.alloc (Below.refl _ _) (Nat.le_refl _) _)
        have HB2 : Hid (Below w.heap.size w (w1.alloc (.cells #[.string r1, .string r2] 29))) := chainY HB.out (Below.alloc (Below.refl _ _) (Nat.le_refl _) _) (Nat.le_refl _)
        generalize w1.alloc (.cells #[.string r1, .string r2] 29) = X2 at HN HT2 HB2 ⊢
        have k0 := HT2.out.c0
        have k1 := HT2.out.c1
        have j0 := HN.out.c0
        have j1 := HN.out.c1
        go_wp2
        go_ret
        exact ⟨rfl, HB2.out⟩
      | true =>
        go_enter Tryd.func15, Tryd.ntmps15
        go_wp2_with fail
        generalize w.alloc (.cells #[.string s1, .string s2] 29) = W0 at T hB0 ⊢
        have m0 := T.c0
        have m1 := T.c1
        go_wp2_with fail
        refine (CI.out W0 hB0).mono ?_
        rintro e w1 ⟨rfl, hb⟩
        have HT := Lib.hid (SB.keep T hb)
        have HB := Lib.hid (chainY hB0 hb (Nat.le_refl _))
        clear hb T hB0 m0 m1
        go_upto_region 2 with fail
        have HN := Lib.hid (SB.new w1 (.string r1) (.string r2))
        have HT2 : Hid (SB (w1.alloc (.cells #[.string r1, .string r2] 29)) w.heap.size (.string s1) (.string s2)) := HT.out.keep (Below.alloc (Below.refl _ _) (Nat.le_refl _) _)
        have HB2 : Hid (Below w.heap.size w (w1.alloc (.cells #[.string r1, .string r2] 29))) := chainY HB.out (Below.alloc (Below.refl _ _) (Nat.le_refl _) _) (Nat.le_refl _)
        generalize w1.alloc (.cells #[.string r1, .string r2] 29) = X2 at HN HT2 HB2 ⊢
        have k0 := HT2.out.c0
        have k1 := HT2.out.c1
        have j0 := HN.out.c0
        have j1 := HN.out.c1
        go_wp2
        go_ret
        exact ⟨rfl, HB2.out⟩
set_option maxHeartbeats 4000000 in
set_option maxRecDepth 100000 in
theorem homeY (l : List Pg) (v : Value) (s1 s2 : ByteArray) (w : World) (hv : PgV w l v) (hl : l.length ≤ 1000000) (hi : ∀ p ∈ l, p.2.length ≤ 1000000) : Calls Tryd.prog 10 #[v, .agg #[.string s1, .string s2]] w (RetY w (.bool (homeM l (s1, s2)))) := by
  have T := SB.new w (.string s1) (.string s2)
  have hB0 := Below.alloc (Below.refl w.heap.size w) (Nat.le_refl _) (.cells #[.string s1, .string s2] 29)
  have CV : Hid (∀ X, Below w.heap.size w X → Calls Tryd.prog 15 #[v, .string s1, .agg #[.string s1, .string s2]] X (RetY X (.bool (visM l s1 (s1, s2))))) := fun X hX => visibleY l v s1 s1 s2 X (hv.keep hX) hl hi
  clear hv hi
  show Calls _ _ _ _ (RetY w (.bool (visM l s1 (s1, s2))))
  generalize visM l s1 (s1, s2) = r at CV ⊢
  go_enter Tryd.func10, Tryd.ntmps10
  go_wp2_with fail
  generalize w.alloc (.cells #[.string s1, .string s2] 29) = W0 at T hB0 ⊢
  have m0 := T.c0
  have m1 := T.c1
  go_wp2_with fail
  refine (CV.out W0 hB0).mono ?_
  rintro e w1 ⟨rfl, hb⟩
  have HB := Lib.hid (chainY hB0 hb (Nat.le_refl _))
  clear hb T hB0 m0 m1
  go_wp2
  go_ret
  exact ⟨rfl, HB.out⟩
end Go.Proofs.YtcgchacokcnacaaDoor
