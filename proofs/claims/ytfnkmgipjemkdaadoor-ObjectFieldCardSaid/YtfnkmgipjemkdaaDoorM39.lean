/- The program's rank, compareNumbers, compareFields. -/
import Derived.Test.YtfnkmgipjemkdaaDoorM37
import Derived.Test.YtfnkmgipjemkdaaDoorComp
import Derived.Deep.RegionHeld3
import Derived.StillTailTactics
namespace Go.Proofs.YtfnkmgipjemkdaaDoor
open Go Go.RowKit
set_option linter.unusedVariables false

/-- The fields of an object but its last. -/
def fO : Ob → Int × ByteArray × ByteArray × ByteArray × ByteArray × ByteArray
  | .num q => (1, nt q, dt q, ⟨#[]⟩, ⟨#[]⟩, ⟨#[]⟩)
  | .str s => (3, ⟨#[]⟩, ⟨#[]⟩, ⟨#[]⟩, ⟨#[]⟩, BA s)
  | .sym a n => (2, ⟨#[]⟩, ⟨#[]⟩, BA a, BA n, ⟨#[]⟩)
  | .cons _ _ => (4, ⟨#[]⟩, ⟨#[]⟩, ⟨#[]⟩, ⟨#[]⟩, ⟨#[]⟩)
theorem cellsO_f (o : Ob) (p : Value) : cellsO o p = [.int .i64 (fO o).1, .string (fO o).2.1, .string (fO o).2.2.1, .string (fO o).2.2.2.1, .string (fO o).2.2.2.2.1, .string (fO o).2.2.2.2.2, p] := by
  cases o <;> rfl
def Ob.same (a b : Ob) : Bool := (a.isCons && b.isCons) || decide (a = b)
theorem same_f (a b : Ob) : ((fO a).1 == (fO b).1 && eqS (fO a).2.1 (fO a).2.2.1 (fO a).2.2.2.1 (fO a).2.2.2.2.1 (fO a).2.2.2.2.2 (fO b).2.1 (fO b).2.2.1 (fO b).2.2.2.1 (fO b).2.2.2.2.1 (fO b).2.2.2.2.2) = a.same b := by
  cases a with
  | num q =>
    cases b with
    | num q' => show (true && eqS (nt q) (dt q) ⟨#[]⟩ ⟨#[]⟩ ⟨#[]⟩ (nt q') (dt q') ⟨#[]⟩ ⟨#[]⟩ ⟨#[]⟩) = decide (Ob.num q = Ob.num q'); unfold eqS; rw [q_beq]; simp
    | str s => simp [fO, Ob.same, Ob.isCons]
    | sym x y => simp [fO, Ob.same, Ob.isCons]
    | cons x y => simp [fO, Ob.same, Ob.isCons]
  | str s =>
    cases b with
    | str s' => show (true && eqS ⟨#[]⟩ ⟨#[]⟩ ⟨#[]⟩ ⟨#[]⟩ (BA s) ⟨#[]⟩ ⟨#[]⟩ ⟨#[]⟩ ⟨#[]⟩ (BA s')) = decide (Ob.str s = Ob.str s'); unfold eqS; rw [beq_BA]; simp
    | num q => simp [fO, Ob.same, Ob.isCons]
    | sym x y => simp [fO, Ob.same, Ob.isCons]
    | cons x y => simp [fO, Ob.same, Ob.isCons]
  | sym x y =>
    cases b with
    | sym x' y' => show (true && eqS ⟨#[]⟩ ⟨#[]⟩ (BA x) (BA y) ⟨#[]⟩ ⟨#[]⟩ ⟨#[]⟩ (BA x') (BA y') ⟨#[]⟩) = decide (Ob.sym x y = Ob.sym x' y'); unfold eqS; rw [beq_BA, beq_BA]; simp
    | num q => simp [fO, Ob.same, Ob.isCons]
    | str s => simp [fO, Ob.same, Ob.isCons]
    | cons x y => simp [fO, Ob.same, Ob.isCons]
  | cons x y =>
    cases b with
    | cons x' y' => show (true && eqS ⟨#[]⟩ ⟨#[]⟩ ⟨#[]⟩ ⟨#[]⟩ ⟨#[]⟩ ⟨#[]⟩ ⟨#[]⟩ ⟨#[]⟩ ⟨#[]⟩ ⟨#[]⟩) = true; unfold eqS; simp
    | num q => simp [fO, Ob.same, Ob.isCons]
    | str s => simp [fO, Ob.same, Ob.isCons]
    | sym x y => simp [fO, Ob.same, Ob.isCons]
theorem sameP (a a' : Ob) (b k b' k' : Nat) (p p' : Value) (w : World) (S : Nat → Prop) (h : At w S a b k p) (h' : At w S a' b' k' p') :
    Calls Tryd.prog 60 #[.pointer (some ⟨b, k, none⟩), .pointer (some ⟨b', k', none⟩)] w (QuietV w (.bool (a.same a'))) := by
  obtain ⟨x0, x1, x2, x3, x4, x5, e, l0, l1, l2, l3, l4, l5, l6⟩ := h.cells
  obtain ⟨y0, y1, y2, y3, y4, y5, e', m0, m1, m2, m3, m4, m5, m6⟩ := h'.cells
  rw [cellsO_f] at e e'
  simp only [List.cons.injEq, and_true] at e e'
  obtain ⟨rfl, rfl, rfl, rfl, rfl, rfl⟩ := e
  obtain ⟨rfl, rfl, rfl, rfl, rfl, rfl⟩ := e'
  rw [← same_f]
  exact sameRaw b k b' k' w _ _ _ _ _ _ _ _ _ _ _ _ l0 l1 l2 l3 l4 l5 m0 m1 m2 m3 m4 m5

def rankI (k : Int) : Int := if k = 1 then 1 else if k = 3 then 2 else if k = 2 then 3 else if k = 4 then 4 else 0
set_option maxHeartbeats 1000000 in
theorem rankP (k : Int) (w : World) : Calls Tryd.prog 72 #[.int .i64 k] w fun e w' => e = .returned (.int .i64 (rankI k)) ∧ w = w' := by
  by_cases h : k = 1 ∨ k = 2 ∨ k = 3 ∨ k = 4
  · rcases h with rfl | rfl | rfl | rfl
    all_goals
      go_enter Tryd.func72, Tryd.ntmps72
      go_wp2
      go_ret
      exact ⟨rfl, rfl⟩
  · have h1 : (k == 1) = false := by rw [beq_eq_false_iff_ne]; intro e; exact h (.inl e)
    have h2 : (k == 2) = false := by rw [beq_eq_false_iff_ne]; intro e; exact h (.inr (.inl e))
    have h3 : (k == 3) = false := by rw [beq_eq_false_iff_ne]; intro e; exact h (.inr (.inr (.inl e)))
    have h4 : (k == 4) = false := by rw [beq_eq_false_iff_ne]; intro e; exact h (.inr (.inr (.inr e)))
    have hr := Lib.hid (show (0 : Int) = rankI k by unfold rankI; rw [if_neg (by omega), if_neg (by omega), if_neg (by omega), if_neg (by omega)])
    clear h
    go_enter Tryd.func72, Tryd.ntmps72
    go_wp2
    go_ret
    exact ⟨ret_int hr.out, rfl⟩
set_option maxHeartbeats 1000000 in
theorem cmpAny (x y : Int) (w : World) : Calls Tryd.prog 42 #[.int .i64 x, .int .i64 y] w fun e w' => e = .returned (.int .i64 (ordI x y)) ∧ w = w' := by
  by_cases h : x = y
  · subst h
    have ho := Lib.hid (show ordI x x = 0 by unfold ordI; rw [if_neg (by omega), if_neg (by omega)])
    have hn : ¬ x < x := by omega
    go_enter Tryd.func42, Tryd.ntmps42
    go_wp2
    go_ret
    exact ⟨ret_int ho.out.symm, rfl⟩
  · exact cmpInt x y w h
set_option maxHeartbeats 1000000 in
theorem orP (c d : Int) (g : Nat) (w : World) (h0 : w.cell? ⟨g, 0, none⟩ = some (.int .i64 c)) (h1 : w.cell? ⟨g, 1, none⟩ = some (.int .i64 d)) :
    Calls Tryd.prog 74 #[.slice (some ⟨g, 0, none⟩) 2 2] w fun e w' => e = .returned (.int .i64 (next c d)) ∧ w = w' := by
  obtain ⟨r, hr⟩ : ∃ r, next c d = r := ⟨_, rfl⟩
  have HR := Lib.hid hr
  rw [hr]
  clear hr
  go_enter Tryd.func74, Tryd.ntmps74
  go_wp2_with fail
  go_loop [8] (fun v => ∃ i : Nat, i ≤ 2 ∧ v = .int .i64 i ∧ Hid ((0 < i → c = 0) ∧ (1 < i → d = 0))) (fun v => 2 - (intOf v).toNat)
  case atStart => exact ⟨0, by omega, rfl, ⟨fun h => by omega, fun h => by omega⟩⟩
  case round =>
    obtain ⟨i, hi, rfl, hE⟩ := hrel
    have hi3 : i = 0 ∨ i = 1 ∨ i = 2 := by omega
    rcases hi3 with rfl | rfl | rfl
    · by_cases hc : c = 0
      · have hn : (c != 0) = false := by subst hc; rfl
        have HC := Lib.hid hc
        clear hc
        go_wp2
        go_round
        case rel => exact ⟨1, by omega, rfl, ⟨fun _ => HC.out, fun h => by omega⟩⟩
        case measure => simp [intOf]
      · have hn : (c != 0) = true := by rw [bne_iff_ne]; exact hc
        have hr := Lib.hid (show c = r by rw [← HR.out]; unfold next; rw [if_neg hc])
        clear hc
        go_wp2
        go_ret
        exact ⟨ret_int hr.out, rfl⟩
    · have hc := hE.out.1 (by omega)
      by_cases hd : d = 0
      · have hn : (d != 0) = false := by subst hd; rfl
        have HC := Lib.hid hc
        have HD := Lib.hid hd
        clear hc hd
        go_wp2
        go_round
        case rel => exact ⟨2, by omega, rfl, ⟨fun _ => HC.out, fun h => HD.out⟩⟩
        case measure => simp [intOf]
      · have hn : (d != 0) = true := by rw [bne_iff_ne]; exact hd
        have hr := Lib.hid (show d = r by rw [← HR.out]; unfold next; rw [if_pos hc])
        clear hc hd
        go_wp2
        go_ret
        exact ⟨ret_int hr.out, rfl⟩
    · have hr := Lib.hid (show (0 : Int) = r by rw [← HR.out]; unfold next; rw [if_pos (hE.out.1 (by omega)), hE.out.2 (by omega)])
      go_wp2
      go_ret
      exact ⟨ret_int hr.out, rfl⟩
end Go.Proofs.YtfnkmgipjemkdaaDoor

/- The program's compareNumbers. -/
namespace Go.Proofs.YtfnkmgipjemkdaaDoor
open Go Go.RowKit
set_option linter.unusedVariables false

theorem ordI_mul (x y : Int) (d : Nat) (hd : 0 < d) : ordI (x * (d : Int)) (y * (d : Int)) = ordI x y := by
  have hd' : (0 : Int) < d := by omega
  unfold ordI
  simp only [Int.mul_lt_mul_right hd']
theorem dt_beq {x y : Rat} : ((dt x).toList == (dt y).toList) = decide (x.den = y.den) := by
  unfold dt
  rw [beq_BA]
  by_cases h : x.den = y.den
  · rw [h]; simp
  · rw [decide_eq_false h, decide_eq_false]
    intro e
    have := congrArg val e
    rw [val_text, val_text] at this
    exact h (by exact_mod_cast this)

/-- A chain of worlds. -/
theorem chain2 {B : Nat} {w w1 w2 : World} (h : Below B w w1) (hb : Below w1.heap.size w1 w2) (hB : B ≤ w.heap.size) : Below B w w2 := h.trans (hb.mono (Nat.le_trans hB h.size))

set_option maxHeartbeats 4000000 in
set_option maxRecDepth 100000 in
theorem cmpNumP (k : Nat) (hk : k ≤ 1000) (x y : Rat) (w : World) (hx : Bd k x) (hy : Bd k y) :
    Calls Tryd.prog 29 #[vO (.num x) (.slice none 0 0), vO (.num y) (.slice none 0 0)] w (RetI w (ordQ x y)) := by
  have b1 := bd_nt hx
  have b2 := bd_dt hx
  have b3 := bd_nt hy
  have b4 := bd_dt hy
  have v1 := Lib.hid (val_nt x)
  have v2 := Lib.hid (val_dt x)
  have v3 := Lib.hid (val_nt y)
  have v4 := Lib.hid (val_dt y)
  cases hd : ((dt x).toList == (dt y).toList) with
  | true =>
    have hR : Hid (ordI (val (LA (nt x))) (val (LA (nt y))) = ordQ x y) := by
      show _ = _
      rw [dt_beq] at hd
      have hd := of_decide_eq_true hd
      rw [v1.out, v3.out, ← ordQ_eq, hd, ordI_mul _ _ _ y.den_pos]
    change Calls Tryd.prog 29 #[.agg #[.int .i64 1, .string (nt x), .string (dt x), e0, e0, e0, .slice none 0 0], .agg #[.int .i64 1, .string (nt y), .string (dt y), e0, e0, e0, .slice none 0 0]] w _
    generalize nt x = nx at b1 hR v1 ⊢
    generalize dt x = dx at b2 hd v2 ⊢
    generalize nt y = ny at b3 hR v3 ⊢
    generalize dt y = dy at b4 hd v4 ⊢
    go_enter Tryd.func29, Tryd.ntmps29
    go_wp2_with fail
    refine (compare_any nx ny _ (by omega) (by omega)).mono ?_
    rintro e w' ⟨rfl, rfl⟩
    go_wp2
    go_ret
    exact ⟨ret_int hR.out, Below.alloc (Below.alloc (Below.refl _ _) (Nat.le_refl _) _) (by simp) _⟩
  | false =>
    have hR : Hid (ordI (val (LA (BA (text (val (LA (nt x)) * val (LA (dt y))))))) (val (LA (BA (text (val (LA (nt y)) * val (LA (dt x))))))) = ordQ x y) := by
      show _ = _
      rw [LA_BA, LA_BA, val_text, val_text, v1.out, v2.out, v3.out, v4.out, ordQ_eq]
    have s1 : (BA (text (val (LA (nt x)) * val (LA (dt y))))).size ≤ 3000 := by
      rw [v1.out, v4.out, BA_size]
      refine Nat.le_trans (text_length (k := k + k) ?_) (by omega)
      rw [Int.natAbs_mul]
      exact lt_pow_mul hx.1 hy.2
    have s2 : (BA (text (val (LA (nt y)) * val (LA (dt x))))).size ≤ 3000 := by
      rw [v3.out, v2.out, BA_size]
      refine Nat.le_trans (text_length (k := k + k) ?_) (by omega)
      rw [Int.natAbs_mul]
      exact lt_pow_mul hy.1 hx.2
    change Calls Tryd.prog 29 #[.agg #[.int .i64 1, .string (nt x), .string (dt x), e0, e0, e0, .slice none 0 0], .agg #[.int .i64 1, .string (nt y), .string (dt y), e0, e0, e0, .slice none 0 0]] w _
    generalize nt x = nx at b1 hR v1 s1 s2 ⊢
    generalize dt x = dx at b2 hd v2 hR s1 s2 ⊢
    generalize nt y = ny at b3 hR v3 s1 s2 ⊢
    generalize dt y = dy at b4 hd v4 hR s1 s2 ⊢
    clear v1 v2 v3 v4 hx hy
    go_enter Tryd.func29, Tryd.ntmps29
    go_wp2_with fail
    have c1 : ((w.alloc (.cells #[.int .i64 1, .string nx, .string dx, e0, e0, e0, .slice none 0 0] 27)).alloc (.cells #[.int .i64 1, .string ny, .string dy, e0, e0, e0, .slice none 0 0] 27)).heap[w.heap.size]? = _ := heap_alloc2_old w _ _
    have c2 : ((w.alloc (.cells #[.int .i64 1, .string nx, .string dx, e0, e0, e0, .slice none 0 0] 27)).alloc (.cells #[.int .i64 1, .string ny, .string dy, e0, e0, e0, .slice none 0 0] 27)).heap[w.heap.size + 1]? = _ := heap_alloc2_new w _ _
    have hW := Below.alloc (Below.alloc (Below.refl w.heap.size w) (Nat.le_refl _) (.cells #[.int .i64 1, .string nx, .string dx, e0, e0, e0, .slice none 0 0] 27)) (by simp) (.cells #[.int .i64 1, .string ny, .string dy, e0, e0, e0, .slice none 0 0] 27)
    have hz : ((w.alloc (.cells #[.int .i64 1, .string nx, .string dx, e0, e0, e0, .slice none 0 0] 27)).alloc (.cells #[.int .i64 1, .string ny, .string dy, e0, e0, e0, .slice none 0 0] 27)).heap.size = w.heap.size + 2 := by simp
    unfold e0 at c1 c2 hW hz ⊢
    generalize (w.alloc (.cells #[.int .i64 1, .string nx, .string dx, .string ⟨#[]⟩, .string ⟨#[]⟩, .string ⟨#[]⟩, .slice none 0 0] 27)).alloc (.cells #[.int .i64 1, .string ny, .string dy, .string ⟨#[]⟩, .string ⟨#[]⟩, .string ⟨#[]⟩, .slice none 0 0] 27) = W at c1 c2 hW hz ⊢
    have HC : Hid (∀ W', Below W.heap.size W W' → W'.cell? ⟨w.heap.size, 1, none⟩ = some (.string nx) ∧ W'.cell? ⟨w.heap.size, 2, none⟩ = some (.string dx) ∧ W'.cell? ⟨w.heap.size + 1, 1, none⟩ = some (.string ny) ∧ W'.cell? ⟨w.heap.size + 1, 2, none⟩ = some (.string dy)) := by
      intro W' hb
      have d1 := (hb.block w.heap.size (by omega)).trans c1
      have d2 := (hb.block (w.heap.size + 1) (by omega)).trans c2
      refine ⟨?_, ?_, ?_, ?_⟩
      · rw [cell_of_row _ _ _ _ _ _ d1]; rfl
      · rw [cell_of_row _ _ _ _ _ _ d1]; rfl
      · rw [cell_of_row _ _ _ _ _ _ d2]; rfl
      · rw [cell_of_row _ _ _ _ _ _ d2]; rfl
    obtain ⟨q1, q2, q3, q4⟩ := HC.out W (Below.refl _ _)
    have hB0 : Below W.heap.size W W.drew := (Below.refl _ _).drew
    clear c1 c2
    go_wp2_with fail
    go_region_held3 (fun W' => W'.cell? ⟨w.heap.size, 1, none⟩ = some (.string nx) ∧ W'.cell? ⟨w.heap.size, 2, none⟩ = some (.string dx) ∧ W'.cell? ⟨w.heap.size + 1, 1, none⟩ = some (.string ny) ∧ W'.cell? ⟨w.heap.size + 1, 2, none⟩ = some (.string dy)) (go_keep)
      (first | (go_at_call 26; refine (multiply_any _ _ _ (by omega) (by omega)).mono ?_; rintro e w3 ⟨rfl, hb3⟩; have hB3 := chain2 ‹Below W.heap.size W _› hb3 (Nat.le_refl _); obtain ⟨j1, j2, j3, j4⟩ := HC.out _ hB3) | (go_at_call 47; refine (compare_any _ _ _ (by omega) (by omega)).mono ?_; rintro e w4 ⟨rfl, rfl⟩))
    all_goals go_wp2
    all_goals go_ret
    all_goals exact ⟨ret_int hR.out, hW.trans ((‹Below W.heap.size W _› : Below W.heap.size W _).mono (by omega))⟩
end Go.Proofs.YtfnkmgipjemkdaaDoor

/- The program's compareFields. -/
namespace Go.Proofs.YtfnkmgipjemkdaaDoor
open Go Go.RowKit
set_option linter.unusedVariables false

theorem kindI (o : Ob) : (fO o).1 = 1 ∨ (fO o).1 = 2 ∨ (fO o).1 = 3 ∨ (fO o).1 = 4 := by cases o <;> simp [fO]
theorem rank_f (o : Ob) : rankI (fO o).1 = o.rank := by cases o <;> rfl
/-- The order by the fields. -/
def ordF (a b : Ob) : Int := if a.isCons && b.isCons then 0 else ordO a b
theorem ordF_ne {a b : Ob} (h : a.rank ≠ b.rank) : ordI (rankI (fO a).1) (rankI (fO b).1) = ordF a b ∧ ordI (rankI (fO a).1) (rankI (fO b).1) ≠ 0 := by
  rw [rank_f, rank_f]
  unfold ordF
  have hc : (a.isCons && b.isCons) = false := by cases a <;> cases b <;> first | rfl | exact absurd rfl h
  rw [hc]
  simp only [Bool.false_eq_true, if_false]
  rcases Int.lt_or_gt_of_ne h with g | g
  · rw [ordO_less g, ordI_lt g]; exact ⟨rfl, by omega⟩
  · rw [ordO_more g, ordI_gt g]; exact ⟨rfl, by omega⟩

set_option maxHeartbeats 4000000 in
set_option maxRecDepth 100000 in
theorem cmpF_ne (b k b' k' : Nat) (w : World) (x y : Int) (hx : x = 1 ∨ x = 2 ∨ x = 3 ∨ x = 4) (hy : y = 1 ∨ y = 2 ∨ y = 3 ∨ y = 4) (hr : ordI (rankI x) (rankI y) ≠ 0)
    (l0 : w.cell? ⟨b, k, none⟩ = some (.int .i64 x)) (m0 : w.cell? ⟨b', k', none⟩ = some (.int .i64 y)) :
    Calls Tryd.prog 59 #[.pointer (some ⟨b, k, none⟩), .pointer (some ⟨b', k', none⟩)] w (RetI w (ordI (rankI x) (rankI y))) := by
  have HX := Lib.hid hx
  have HY := Lib.hid hy
  have hn : (ordI (rankI x) (rankI y) != 0) = true := by rw [bne_iff_ne]; exact hr
  clear hx hy hr
  go_enter Tryd.func59, Tryd.ntmps59
  go_wp2_with fail
  go_quiet ((first | (go_at_call 72; exact quiet_same (rankP _ _)) | (go_at_call 42; exact quiet_same (cmpAny _ _ _))))
  go_wp2
  go_ret
  exact ⟨rfl, rfl, rfl, rfl, Nat.le_refl _, fun _ _ => rfl⟩

set_option maxHeartbeats 4000000 in
set_option maxRecDepth 100000 in
theorem cmpF_cons (b k b' k' : Nat) (w : World)
    (l0 : w.cell? ⟨b, k, none⟩ = some (.int .i64 4)) (m0 : w.cell? ⟨b', k', none⟩ = some (.int .i64 4)) :
    Calls Tryd.prog 59 #[.pointer (some ⟨b, k, none⟩), .pointer (some ⟨b', k', none⟩)] w (RetI w 0) := by
  have hn : ordI (rankI 4) (rankI 4) = 0 := rfl
  go_enter Tryd.func59, Tryd.ntmps59
  go_wp2_with fail
  go_quiet ((first | (go_at_call 72; exact quiet_same (rankP _ _)) | (go_at_call 42; exact quiet_same (cmpAny _ _ _))))
  go_wp2
  go_ret
  exact ⟨rfl, rfl, rfl, rfl, Nat.le_refl _, fun _ _ => rfl⟩

theorem strCmp (s t : ByteArray) (w : World) : Calls Tryd.prog 73 #[.string s, .string t] w fun e w' => e = .returned (.int .i64 (ordB (LA s) (LA t))) ∧ w = w' :=
  (Tryd.strings_Compare s t w).mono fun e w' ⟨h1, h2⟩ => ⟨h1, h2.symm⟩
set_option maxHeartbeats 4000000 in
set_option maxRecDepth 100000 in
theorem cmpF_str (b k b' k' : Nat) (w : World) (s t : ByteArray)
    (l0 : w.cell? ⟨b, k, none⟩ = some (.int .i64 3)) (m0 : w.cell? ⟨b', k', none⟩ = some (.int .i64 3))
    (l5 : w.cell? ⟨b, k + 5, none⟩ = some (.string s)) (m5 : w.cell? ⟨b', k' + 5, none⟩ = some (.string t)) :
    Calls Tryd.prog 59 #[.pointer (some ⟨b, k, none⟩), .pointer (some ⟨b', k', none⟩)] w (RetI w (ordB (LA s) (LA t))) := by
  have hn : ordI (rankI 3) (rankI 3) = 0 := rfl
  go_enter Tryd.func59, Tryd.ntmps59
  go_wp2_with fail
  go_quiet ((first | (go_at_call 72; exact quiet_same (rankP _ _)) | (go_at_call 42; exact quiet_same (cmpAny _ _ _))))
  go_wp2_with fail
  have Q : Below w.heap.size w (w.drewN nq) := ⟨rfl, rfl, rfl, Nat.le_refl _, fun _ _ => rfl⟩
  replace Q := Lib.hid Q
  change (w.drewN nq).cell? _ = _ at l5 m5
  clear l0 m0 hn
  generalize w.drewN nq = w1 at l5 m5 Q ⊢
  go_quiet ((go_at_call 73; exact quiet_same (strCmp _ _ _)))
  have Q2 := Lib.hid (Q.out.trans (⟨rfl, rfl, rfl, Nat.le_refl _, fun _ _ => rfl⟩ : Below w.heap.size w1 (w1.drewN nq)))
  go_wp2
  go_ret
  exact ⟨rfl, Q2.out⟩

set_option maxHeartbeats 4000000 in
set_option maxRecDepth 100000 in
theorem cmpF_sym (b k b' k' : Nat) (w : World) (s t s' t' : ByteArray)
    (l0 : w.cell? ⟨b, k, none⟩ = some (.int .i64 2)) (m0 : w.cell? ⟨b', k', none⟩ = some (.int .i64 2))
    (l3 : w.cell? ⟨b, k + 3, none⟩ = some (.string s)) (m3 : w.cell? ⟨b', k' + 3, none⟩ = some (.string s'))
    (l4 : w.cell? ⟨b, k + 4, none⟩ = some (.string t)) (m4 : w.cell? ⟨b', k' + 4, none⟩ = some (.string t')) :
    Calls Tryd.prog 59 #[.pointer (some ⟨b, k, none⟩), .pointer (some ⟨b', k', none⟩)] w (RetI w (ordS (LA s) (LA t) (LA s') (LA t'))) := by
  have hn : ordI (rankI 2) (rankI 2) = 0 := rfl
  go_enter Tryd.func59, Tryd.ntmps59
  go_wp2_with fail
  go_quiet ((first | (go_at_call 72; exact quiet_same (rankP _ _)) | (go_at_call 42; exact quiet_same (cmpAny _ _ _))))
  go_wp2_with fail
  have Q : Below w.heap.size w (w.drewN nq) := ⟨rfl, rfl, rfl, Nat.le_refl _, fun _ _ => rfl⟩
  replace Q := Lib.hid Q
  change (w.drewN nq).cell? _ = _ at l3 m3 l4 m4
  clear l0 m0 hn
  generalize w.drewN nq = w1 at l3 m3 l4 m4 Q ⊢
  go_still_tail 22, (by kernel_rfl)
  still_call (Tryd.strings_Compare t t' _)
  repeat still_step
  still_call (Tryd.strings_Compare s s' _)
  refine wpStill_nil ?_
  change wpList _ _ _ _ _ w1.drew
  have Q2 := Q.out.drew
  clear l3 m3 l4 m4
  generalize w1.drew = w2 at Q2 ⊢
  go_wp2_with fail
  refine (orP _ _ _ _ (by rw [cell_of_row _ _ _ _ _ _ (heap_alloc_new w2 _)]; rfl) (by rw [cell_of_row _ _ _ _ _ _ (heap_alloc_new w2 _)]; rfl)).mono ?_
  rintro e w3 ⟨rfl, rfl⟩
  have Q3 := Lib.hid (Below.alloc Q2 Q2.size (.cells #[.int .i64 (Lib.compareBytes t.data.toList t'.data.toList), .int .i64 (Lib.compareBytes s.data.toList s'.data.toList)] 3))
  clear Q2
  go_wp2
  go_ret
  exact ⟨rfl, Q3.out⟩

set_option maxHeartbeats 4000000 in
set_option maxRecDepth 100000 in
theorem cmpF_num (d : Nat) (hd : d ≤ 1000) (x y : Rat) (hx : Bd d x) (hy : Bd d y) (b k b' k' : Nat) (w : World)
    (l0 : w.cell? ⟨b, k, none⟩ = some (.int .i64 1)) (l1 : w.cell? ⟨b, k + 1, none⟩ = some (.string (nt x))) (l2 : w.cell? ⟨b, k + 2, none⟩ = some (.string (dt x))) (l3 : w.cell? ⟨b, k + 3, none⟩ = some e0) (l4 : w.cell? ⟨b, k + 4, none⟩ = some e0) (l5 : w.cell? ⟨b, k + 5, none⟩ = some e0) (l6 : w.cell? ⟨b, k + 6, none⟩ = some (.slice none 0 0))
    (m0 : w.cell? ⟨b', k', none⟩ = some (.int .i64 1)) (m1 : w.cell? ⟨b', k' + 1, none⟩ = some (.string (nt y))) (m2 : w.cell? ⟨b', k' + 2, none⟩ = some (.string (dt y))) (m3 : w.cell? ⟨b', k' + 3, none⟩ = some e0) (m4 : w.cell? ⟨b', k' + 4, none⟩ = some e0) (m5 : w.cell? ⟨b', k' + 5, none⟩ = some e0) (m6 : w.cell? ⟨b', k' + 6, none⟩ = some (.slice none 0 0)) :
    Calls Tryd.prog 59 #[.pointer (some ⟨b, k, none⟩), .pointer (some ⟨b', k', none⟩)] w (RetI w (ordQ x y)) := by
  have hn : ordI (rankI 1) (rankI 1) = 0 := rfl
  have C : Hid (∀ w, Calls Tryd.prog 29 #[.agg #[.int .i64 1, .string (nt x), .string (dt x), e0, e0, e0, .slice none 0 0], .agg #[.int .i64 1, .string (nt y), .string (dt y), e0, e0, e0, .slice none 0 0]] w (RetI w (ordQ x y))) := fun w => cmpNumP d hd x y w hx hy
  clear hx hy
  unfold e0 at *
  go_enter Tryd.func59, Tryd.ntmps59
  go_wp2_with fail
  go_quiet ((first | (go_at_call 72; exact quiet_same (rankP _ _)) | (go_at_call 42; exact quiet_same (cmpAny _ _ _))))
  go_wp2_with fail
  have Q : Below w.heap.size w (w.drewN nq) := ⟨rfl, rfl, rfl, Nat.le_refl _, fun _ _ => rfl⟩
  replace Q := Lib.hid Q
  change (w.drewN nq).cell? _ = _ at l0 m0 l1 m1 l2 m2 l3 m3 l4 m4 l5 m5 l6 m6
  clear hn
  generalize w.drewN nq = w1 at l0 m0 l1 m1 l2 m2 l3 m3 l4 m4 l5 m5 l6 m6 Q ⊢
  go_still_tail 6, (by kernel_rfl)
  change wpList _ _ _ _ _ w1.drew
  have Q2 := Q.out.drew
  clear l0 m0 l1 m1 l2 m2 l3 m3 l4 m4 l5 m5 l6 m6
  generalize w1.drew = w2 at Q2 ⊢
  go_wp2_with fail
  refine (C.out w2).mono ?_
  rintro e w3 ⟨rfl, hb⟩
  have Q3 := Lib.hid (Q2.trans (hb.mono Q2.size))
  clear hb Q2
  go_wp2
  go_ret
  exact ⟨rfl, Q3.out⟩

/-- compareFields: the order of objects, without the pairs. -/
theorem cmpFieldsP (d : Nat) (hd : d ≤ 1000) (a a' : Ob) (b k b' k' : Nat) (p p' : Value) (w : World) (S : Nat → Prop) (ha : a.bd d) (ha' : a'.bd d) (h : At w S a b k p) (h' : At w S a' b' k' p') :
    Calls Tryd.prog 59 #[.pointer (some ⟨b, k, none⟩), .pointer (some ⟨b', k', none⟩)] w (RetI w (ordF a a')) := by
  obtain ⟨x0, x1, x2, x3, x4, x5, e, l0, l1, l2, l3, l4, l5, l6⟩ := h.cells
  obtain ⟨y0, y1, y2, y3, y4, y5, e', m0, m1, m2, m3, m4, m5, m6⟩ := h'.cells
  rw [cellsO_f] at e e'
  simp only [List.cons.injEq, and_true] at e e'
  obtain ⟨rfl, rfl, rfl, rfl, rfl, rfl⟩ := e
  obtain ⟨rfl, rfl, rfl, rfl, rfl, rfl⟩ := e'
  by_cases hr : a.rank = a'.rank
  · cases a with
    | num q =>
      cases a' with
      | num q' =>
        obtain rfl := h.2.2.flat rfl
        obtain rfl := h'.2.2.flat rfl
        exact cmpF_num d hd q q' ha ha' b k b' k' w l0 l1 l2 l3 l4 l5 l6 m0 m1 m2 m3 m4 m5 m6
      | _ => simp [Ob.rank] at hr
    | str s =>
      cases a' with
      | str s' =>
        have h := cmpF_str b k b' k' w (BA s) (BA s') l0 m0 l5 m5
        rw [LA_BA, LA_BA] at h
        exact h
      | _ => simp [Ob.rank] at hr
    | sym s t =>
      cases a' with
      | sym s' t' =>
        have h := cmpF_sym b k b' k' w (BA s) (BA t) (BA s') (BA t') l0 m0 l3 m3 l4 m4
        rw [LA_BA, LA_BA, LA_BA, LA_BA] at h
        exact h
      | _ => simp [Ob.rank] at hr
    | cons x y =>
      cases a' with
      | cons x' y' => exact cmpF_cons b k b' k' w l0 m0
      | _ => simp [Ob.rank] at hr
  · obtain ⟨h1, h2⟩ := ordF_ne hr
    rw [← h1]
    exact cmpF_ne b k b' k' w _ _ (kindI a) (kindI a') h2 l0 m0
end Go.Proofs.YtfnkmgipjemkdaaDoor

/- The program's comparison: orderWithoutPairs, isSettled. -/
namespace Go.Proofs.YtfnkmgipjemkdaaDoor
open Go Go.RowKit
set_option linter.unusedVariables false

/-- The comparison in block g, after k steps. -/
def CmpAt (w : World) (g : Nat) (x : Bool) (k : Nat) : Prop := w.heap[g]? = some (.cells #[.bool x, .int .i64 k, .map none] 47 (0, 0))
/-- From w on only the comparison in g has turned: its steps are between lo and hi. -/
def Run (w wr : World) (g : Nat) (x : Bool) (lo hi : Nat) : Prop := w.grownBy wr (some g) ∧ ∃ k, CmpAt wr g x k ∧ lo ≤ k ∧ k ≤ hi
theorem CmpAt.lt {w : World} {g : Nat} {x : Bool} {k : Nat} (h : CmpAt w g x k) : g < w.heap.size := by
  unfold CmpAt at h
  rcases Nat.lt_or_ge g w.heap.size with hlt | hge
  · exact hlt
  · rw [Array.getElem?_eq_none hge] at h; cases h
theorem CmpAt.c0 {w : World} {g : Nat} {x : Bool} {k : Nat} (h : CmpAt w g x k) : w.cell? ⟨g, 0, none⟩ = some (.bool x) := by rw [cell_of_row _ _ _ _ _ _ h]; rfl
theorem CmpAt.c1 {w : World} {g : Nat} {x : Bool} {k : Nat} (h : CmpAt w g x k) : w.cell? ⟨g, 1, none⟩ = some (.int .i64 k) := by rw [cell_of_row _ _ _ _ _ _ h]; rfl
theorem CmpAt.f1 {w : World} {g : Nat} {x : Bool} {k : Nat} (h : CmpAt w g x k) : w.frozen? ⟨g, 1, none⟩ = false := by
  unfold CmpAt at h
  simp [World.frozen?, h]
theorem CmpAt.set {w : World} {g : Nat} {x : Bool} {k : Nat} (h : CmpAt w g x k) (k' : Nat) : CmpAt (w.setCell ⟨g, 1, none⟩ (.int .i64 (k' : Nat))) g x k' := by
  unfold CmpAt at h ⊢
  simp [World.setCell, Array.getElem?_modify, h]
theorem Run.start {w : World} {g : Nat} {x : Bool} {k : Nat} (h : CmpAt w g x k) : Run w w g x k k := ⟨⟨rfl, rfl, rfl, Nat.le_refl _, fun _ _ _ => rfl⟩, k, h, Nat.le_refl _, Nat.le_refl _⟩
theorem Run.below {w wr w' : World} {g : Nat} {x : Bool} {lo hi : Nat} (h : Run w wr g x lo hi) (hb : Below wr.heap.size wr w') : Run w w' g x lo hi := by
  obtain ⟨hg, k, hc, h1, h2⟩ := h
  exact ⟨⟨hb.os.trans hg.os, hb.tape.trans hg.tape, hb.output.trans hg.output, Nat.le_trans hg.size hb.size, fun i hi hn => (hb.block i (Nat.lt_of_lt_of_le hi hg.size)).trans (hg.block i hi hn)⟩, k, (hb.block g hc.lt).trans hc, h1, h2⟩
theorem Run.drewN {w wr : World} {g : Nat} {x : Bool} {lo hi : Nat} (h : Run w wr g x lo hi) (n : Nat) : Run w (wr.drewN n) g x lo hi := h.below ⟨rfl, rfl, rfl, Nat.le_refl _, fun _ _ => rfl⟩
theorem Run.drew {w wr : World} {g : Nat} {x : Bool} {lo hi : Nat} (h : Run w wr g x lo hi) : Run w wr.drew g x lo hi := h.below ⟨rfl, rfl, rfl, Nat.le_refl _, fun _ _ => rfl⟩
theorem Run.more {w wr : World} {g : Nat} {x : Bool} {lo hi hi' : Nat} (h : Run w wr g x lo hi) (hh : hi ≤ hi') : Run w wr g x lo hi' := by
  obtain ⟨hg, k, hc, h1, h2⟩ := h
  exact ⟨hg, k, hc, h1, Nat.le_trans h2 hh⟩
theorem Run.trans {w wr w' : World} {g : Nat} {x : Bool} {lo hi' k : Nat} (h : w.grownBy wr (some g)) (hk : lo ≤ k) (h' : Run wr w' g x k hi') : Run w w' g x lo hi' := by
  obtain ⟨hg, k', hc, h1, h2⟩ := h'
  refine ⟨⟨hg.os.trans h.os, hg.tape.trans h.tape, hg.output.trans h.output, Nat.le_trans h.size hg.size, fun i hi hn => (hg.block i (Nat.lt_of_lt_of_le hi h.size) hn).trans (h.block i hi hn)⟩, k', hc, by omega, h2⟩
theorem Run.set {w wr : World} {g : Nat} {x : Bool} {lo k : Nat} (h : w.grownBy wr (some g)) (hc : CmpAt wr g x k) (hlo : lo ≤ k) : Run w (wr.setCell ⟨g, 1, none⟩ (.int .i64 ((k + 1 : Nat) : Int))) g x lo (k + 1) := by
  refine ⟨⟨h.os, h.tape, h.output, by simpa [World.setCell] using h.size, fun i hi hn => ?_⟩, k + 1, hc.set (k + 1), by omega, Nat.le_refl _⟩
  exact (Below.heap_setCell wr ⟨g, 1, none⟩ _ i (fun e => hn (by rw [e]))).trans (h.block i hi hn)
theorem At.run {w wr : World} {S : Nat → Prop} {g : Nat} {x : Bool} {lo hi : Nat} {o : Ob} {b k : Nat} {p : Value} (h : At w S o b k p) (hS : In S w) (hg : ¬ S g) (r : Run w wr g x lo hi) : At wr S o b k p :=
  h.keep (fun _ h => h) fun q hq => r.1.block q (hS q hq) (fun e => hg (by injection e with e; rwa [e] at hq))

theorem owp_ne {x : Bool} {a b : Ob} (h : owp x a b ≠ 0) : ordX x a b = owp x a b := by
  unfold owp at h ⊢
  split
  · rename_i hc; rw [if_pos hc] at h; exact absurd rfl h
  · rfl
theorem owp_eq {x : Bool} {a b : Ob} (h : owp x a b = 0) : a = b ∧ a.isCons = false ∨ a.isCons = true ∧ b.isCons = true := by
  unfold owp at h
  split at h
  · rename_i hc
    right
    simpa using hc
  · rename_i hc
    have e := (ordX_zero x a b).1 h
    subst e
    left
    refine ⟨rfl, ?_⟩
    cases hh : a.isCons with
    | false => rfl
    | true => exact absurd (by rw [hh]; rfl) hc

set_option maxHeartbeats 4000000 in
set_option maxRecDepth 100000 in
theorem owpP (d : Nat) (hd : d ≤ 1000) (a a' : Ob) (b k b' k' : Nat) (p p' : Value) (w : World) (S : Nat → Prop) (ha : a.bd d) (ha' : a'.bd d) (h : At w S a b k p) (h' : At w S a' b' k' p') (g : Nat) (x : Bool) (hc : w.cell? ⟨g, 0, none⟩ = some (.bool x)) :
    Calls Tryd.prog 41 #[.pointer (some ⟨g, 0, none⟩), .pointer (some ⟨b, k, none⟩), .pointer (some ⟨b', k', none⟩)] w (RetI w (owp x a a')) := by
  cases x with
  | false =>
    have call := Lib.hid (cmpFieldsP d hd a a' b k b' k' p p' w S ha ha' h h')
    have hr : Hid (ordF a a' = owp false a a') := rfl
    clear h h' ha ha'
    go_enter Tryd.func41, Tryd.ntmps41
    go_wp2_with fail
    refine call.out.mono ?_
    rintro e w' ⟨rfl, hb⟩
    have HB := Lib.hid hb
    clear hb
    go_wp2
    go_ret
    exact ⟨ret_int hr.out, HB.out⟩
  | true =>
    have call := Lib.hid (sameP a a' b k b' k' p p' w S h h')
    have hr : Hid (owp true a a' = if a.same a' then 0 else 1) := by
      show _ = _
      unfold owp Ob.same ordX eqI
      cases a.isCons && a'.isCons <;> simp
    clear h h' ha ha'
    rw [hr.out]
    generalize a.same a' = r at call ⊢
    cases r
    · go_enter Tryd.func41, Tryd.ntmps41
      go_wp2_with fail
      refine call.out.mono ?_
      intro e w' hq
      obtain ⟨rfl, hb⟩ := hq.below
      have HB := Lib.hid hb
      clear hb hq
      go_wp2
      go_ret
      exact ⟨rfl, HB.out⟩
    · go_enter Tryd.func41, Tryd.ntmps41
      go_wp2_with fail
      refine call.out.mono ?_
      intro e w' hq
      obtain ⟨rfl, hb⟩ := hq.below
      have HB := Lib.hid hb
      clear hb hq
      go_wp2
      go_ret
      exact ⟨rfl, HB.out⟩

set_option maxHeartbeats 4000000 in
set_option maxRecDepth 100000 in
theorem settled0 (g : Nat) (w : World) :
    Calls Tryd.prog 43 #[.pointer (some ⟨g, 0, none⟩), .slice none 0 0, .slice none 0 0] w (QuietV w (.bool true)) := by
  go_enter Tryd.func43, Tryd.ntmps43
  go_wp2_with fail
  go_quiet (fail)
  go_wp2
  go_ret
  exact ⟨rfl, _, rfl⟩
set_option maxHeartbeats 4000000 in
set_option maxRecDepth 100000 in
theorem settledSame (g b o c c' : Nat) (w : World) :
    Calls Tryd.prog 43 #[.pointer (some ⟨g, 0, none⟩), .slice (some ⟨b, o, none⟩) 2 c, .slice (some ⟨b, o, none⟩) 2 c'] w (QuietV w (.bool true)) := by
  have e : (Tryd.prog.info? 27).map (fun i => decide (i.size ≠ 0)) = some true := by kernel_rfl
  obtain ⟨j, hj⟩ : ∃ j, Tryd.prog.info? 27 = some j := by
    generalize Tryd.prog.info? 27 = i at e
    cases i with
    | none => cases e
    | some j => exact ⟨j, rfl⟩
  have he : ∀ w, (binOp .eql 49 (.pointer (some ⟨b, o, none⟩)) (.pointer (some ⟨b, o, none⟩))).run Tryd.prog w = .ok (.bool true) w := fun w => run_eql_ptr_same w ⟨b, o, none⟩ Tryd.underlying49 hj
  clear e hj
  go_enter Tryd.func43, Tryd.ntmps43
  go_wp2_with fail
  go_quiet (fail)
  go_wp2
  go_ret
  exact ⟨rfl, _, rfl⟩
set_option maxHeartbeats 4000000 in
set_option maxRecDepth 100000 in
theorem settledOther (g b o c b' o' c' : Nat) (w0 w : World) (x : Bool) (lo hi : Nat) (he : ∀ n, (binOp .eql 49 (.pointer (some ⟨b, o, none⟩)) (.pointer (some ⟨b', o', none⟩))).run Tryd.prog (w.drewN n) = .ok (.bool false) (w.drewN n)) (hr : Run w0 w g x lo hi) (hh : hi + 1 ≤ 3000) :
    Calls Tryd.prog 43 #[.pointer (some ⟨g, 0, none⟩), .slice (some ⟨b, o, none⟩) 2 c, .slice (some ⟨b', o', none⟩) 2 c'] w (fun e w' => e = .returned (.bool false) ∧ Run w0 w' g x lo (hi + 1)) := by
  obtain ⟨hg, k, hc, h1, h2⟩ := hr
  have c1 := hc.c1
  have f1 := hc.f1
  have hk : (k : Int) + 1 ≤ 3000 := by omega
  have hk0 : (k : Int) ≤ 3000 := by omega
  have R : Hid (∀ n, Run w0 ((w.drewN n).setCell ⟨g, 1, none⟩ (.int .i64 ((k + 1 : Nat) : Int))) g x lo (hi + 1)) := fun n =>
    (Run.set (wr := w.drewN n) (Run.drewN (show Run w0 w g x lo k from ⟨hg, k, hc, h1, Nat.le_refl _⟩) n).1 hc h1).more (by omega)
  clear hc hg
  go_enter Tryd.func43, Tryd.ntmps43
  go_wp2_with fail
  go_quiet (fail)
  go_wp2
  go_ret
  exact ⟨rfl, R.out _⟩
end Go.Proofs.YtfnkmgipjemkdaaDoor

/- The program's comparison: order. -/
namespace Go.Proofs.YtfnkmgipjemkdaaDoor
open Go Go.RowKit
set_option linter.unusedVariables false

theorem ptr_ne {w : World} {b k b' k' : Nat} (h : Plain w b) (h' : Plain w b') (hne : ¬ (b = b' ∧ k = k')) :
    (binOp .eql 49 (.pointer (some ⟨b, k, none⟩)) (.pointer (some ⟨b', k', none⟩))).run Tryd.prog w = .ok (.bool false) w := by
  obtain ⟨_, _, h1⟩ := h
  obtain ⟨_, _, h2⟩ := h'
  have e : (Tryd.prog.info? 27).map (fun i => decide (i.size ≠ 0)) = some true := by kernel_rfl
  obtain ⟨j, hj, hs⟩ : ∃ j, Tryd.prog.info? 27 = some j ∧ j.size ≠ 0 := by
    generalize Tryd.prog.info? 27 = i at e
    cases i with
    | none => cases e
    | some j => exact ⟨j, rfl, by simpa using e⟩
  clear e
  exact run_eql_ptr_other w Tryd.underlying49 hj hs (fun e => by
    injection e with e1 e2
    exact hne ⟨e1, e2⟩) h1 h2
def RetC (w : World) (g : Nat) (x : Bool) (k m : Nat) (r : Int) (e : Ending) (w' : World) : Prop := e = .returned (.int .i64 r) ∧ Run w w' g x k (k + m)
/-- Between rounds: the objects that are still to be compared. -/
def OrdAt (w : World) (S : Nat → Prop) (x : Bool) (d : Nat) (y y' : Ob) (b o b' o' : Nat) (r : Int) : Prop :=
  (∃ p, At w S y b o p) ∧ (∃ p, At w S y' b' o' p) ∧ y.bd d ∧ y'.bd d ∧ ordX x y y' = r

set_option maxHeartbeats 8000000 in
set_option maxRecDepth 100000 in
theorem orderO (d : Nat) (hd : d ≤ 1000) : ∀ (N : Nat) (a a' : Ob) (b o b' o' : Nat) (p p' : Value) (w : World) (S : Nat → Prop) (g : Nat) (x : Bool) (k : Nat), a.nodes ≤ N → a.bd d → a'.bd d → At w S a b o p → At w S a' b' o' p' → In S w → ¬ S g → CmpAt w g x k → k + a.nodes ≤ 3000 →
    Calls Tryd.prog 24 #[.pointer (some ⟨g, 0, none⟩), .pointer (some ⟨b, o, none⟩), .pointer (some ⟨b', o', none⟩)] w (RetC w g x k a.nodes (ordX x a a')) := by
  intro N
  induction N with
  | zero => intro a a' b o b' o' p p' w S g x k hN; have := a.nodes_pos; omega
  | succ N IH =>
    intro a a' b o b' o' p p' w S g x k hN ha ha' hA hA' hS hg hc hk
    have pos := a.nodes_pos
    have IH' := Lib.hid IH
    have HS := Lib.hid hS
    have HG := Lib.hid hg
    clear IH hS hg
    obtain ⟨r, hr⟩ : ∃ r, ordX x a a' = r := ⟨_, rfl⟩
    obtain ⟨m, hm⟩ : ∃ m, a.nodes = m := ⟨_, rfl⟩
    rw [hr]
    rw [hm] at hN hk pos ⊢
    have h0 : Hid (OrdAt w S x d a a' b o b' o' r) := ⟨⟨p, hA⟩, ⟨p', hA'⟩, ha, ha', hr⟩
    have r0 : Hid (Run w w g x k k) := Run.start hc
    have hm' : a.nodes ≤ m := by omega
    clear hA hA' ha ha' hr hm hc
    go_enter Tryd.func24, Tryd.ntmps24
    go_wp2_with fail
    go_loopg [1, 2] m (fun n u v wr => ∃ (y y' : Ob) (b o b' o' hi : Nat), u = .pointer (some ⟨b, o, none⟩) ∧ v = .pointer (some ⟨b', o', none⟩) ∧ y.nodes ≤ n ∧ n ≤ m ∧ hi + y.nodes ≤ k + m ∧ Hid (OrdAt w S x d y y' b o b' o' r) ∧ Hid (Run w wr g x k hi))
    case atStart => exact ⟨a, a', b, o, b', o', k, rfl, rfl, hm', Nat.le_refl _, by omega, h0, r0⟩
    case round =>
      clear h0 r0
      obtain ⟨y, y', b, o, b', o', hi, rfl, rfl, hyn, hnm, hhi, hE, hR⟩ := hrel
      obtain ⟨wo, rfl⟩ : ∃ wo : World, wo = wr := ⟨_, rfl⟩
      obtain ⟨⟨p, hA⟩, ⟨p', hA'⟩, hy, hy', hr⟩ := hE.out
      clear hE
      have posy := y.nodes_pos
      obtain ⟨_, k1, hck, _, _⟩ := hR.out
      have C1 := Lib.hid (owpP d hd y y' b o b' o' p p' wo S hy hy' (hA.run HS.out HG.out hR.out) (hA'.run HS.out HG.out hR.out) g x hck.c0)
      have L6 : Hid (∀ wd hi, Run w wd g x k hi → wd.cell? ⟨b, o + 6, none⟩ = some p ∧ wd.cell? ⟨b', o' + 6, none⟩ = some p') := fun wd hi hr => ⟨(hA.run HS.out HG.out hr).last, (hA'.run HS.out HG.out hr).last⟩
      clear hck
      by_cases h0 : owp x y y' = 0
      · rcases owp_eq h0 with ⟨heq, hf⟩ | ⟨hcy, hcy'⟩
        · obtain rfl := hA.2.2.flat hf
          obtain rfl := hA'.2.2.flat (by rw [← heq]; exact hf)
          have hr0 : Hid (r = 0) := by show r = 0; rw [← hr]; exact (ordX_zero x y y').2 heq
          have hn : (owp x y y' != 0) = false := by rw [h0]; rfl
          have hn2 : ordI (0 : Int) 0 = 0 := rfl
          have hfin : k + m ≥ hi := by omega
          clear hA hA' hr heq hf h0 hy hy'
          go_wp2_with fail
          refine C1.out.mono ?_
          rintro e w1 ⟨rfl, hb1⟩
          have R1 := Lib.hid (hR.out.below hb1)
          obtain ⟨l6, m6⟩ := L6.out w1 hi R1.out
          clear hb1 hR
          go_wp2_with fail
          go_quiet ((go_at_call 42; exact quiet_same (cmpAny _ _ _)))
          have R2 := Lib.hid (R1.out.drewN nq)
          change (w1.drewN nq).cell? _ = _ at l6 m6
          generalize w1.drewN nq = w2 at l6 m6 R2 ⊢
          clear R1
          go_wp2_with fail
          go_still_tail 9, (by kernel_rfl)
          change wpList _ _ _ _ _ w2.drew
          have R3 := Lib.hid R2.out.drew
          clear l6 m6 R2
          generalize w2.drew = w3 at R3 ⊢
          go_wp2_with fail
          refine (settled0 g w3).mono ?_
          intro e w4 hq
          obtain ⟨rfl, hb⟩ := hq.below
          have R4 := Lib.hid (R3.out.below hb)
          clear hq hb R3
          go_wp2
          go_ret
          exact ⟨ret_int hr0.out.symm, R4.out.more hfin⟩
        · cases y with
          | cons c e =>
            cases y' with
            | cons c' e' =>
              obtain ⟨bb, oo, cc, pc, pe, rfl, hcc, hC, hE⟩ := hA.2.2.parts
              obtain ⟨bb', oo', cc', pc', pe', rfl, hcc', hC', hE'⟩ := hA'.2.2.parts
              have hnn : (Ob.cons c e).nodes = 1 + c.nodes + e.nodes := rfl
              have posc := c.nodes_pos
              have pose := e.nodes_pos
              rw [ordX_cons] at hr
              have hn : (owp x (Ob.cons c e) (Ob.cons c' e') != 0) = false := by rw [h0]; rfl
              have hn2 : ordI (2 : Int) 2 = 0 := rfl
              have hfin : k + m ≥ hi := by omega
              have C3 : Hid (∀ wd, Run w wd g x k (hi + 1) → Calls Tryd.prog 24 #[.pointer (some ⟨g, 0, none⟩), .pointer (some ⟨bb, oo, none⟩), .pointer (some ⟨bb', oo', none⟩)] wd (fun e w' => e = .returned (.int .i64 (ordX x c c')) ∧ Run w w' g x k (hi + 1 + c.nodes))) := by
                intro wd hrun
                obtain ⟨hgr, k', hck, h1, h2⟩ := hrun
                have hrun : Run w wd g x k (hi + 1) := ⟨hgr, k', hck, h1, h2⟩
                refine (IH'.out c c' bb oo bb' oo' pc pc' wd S g x k' (by omega) hy.1 hy'.1 (hC.run HS.out HG.out hrun) (hC'.run HS.out HG.out hrun) (HS.out.later hgr.size) HG.out hck (by omega)).mono ?_
                rintro e w' ⟨he, hrun'⟩
                exact ⟨he, (Run.trans hgr h1 hrun').more (by omega)⟩
              have hlim : hi + 1 ≤ 3000 := by omega
              have hce : hi + 1 + c.nodes + e.nodes ≤ k + m := by omega
              have heg : e.nodes < gk := by omega
              have hem : e.nodes ≤ m := by omega
              have HE : Hid ((∃ p, At w S e bb (oo + 7) p) ∧ (∃ p, At w S e' bb' (oo' + 7) p) ∧ e.bd d ∧ e'.bd d) := ⟨⟨_, hE⟩, ⟨_, hE'⟩, hy.2, hy'.2⟩
              by_cases hsame : bb = bb' ∧ oo = oo'
              · obtain ⟨rfl, rfl⟩ := hsame
                have e1 := hC.inj hC'
                have e2 := hE.inj hE'
                have hr0 : Hid (r = 0) := by
                  show r = 0
                  rw [← hr, (ordX_zero x c c').2 e1, (ordX_zero x e e').2 e2]; rfl
                clear hA hA' hr h0 hy hy' hC hC' hE hE' hnn e1 e2 hcy hcy' C3 HE
                go_wp2_with fail
                refine C1.out.mono ?_
                rintro e w1 ⟨rfl, hb1⟩
                have R1 := Lib.hid (hR.out.below hb1)
                obtain ⟨l6, m6⟩ := L6.out w1 hi R1.out
                clear hb1 hR
                go_wp2_with fail
                go_quiet ((go_at_call 42; exact quiet_same (cmpAny _ _ _)))
                have R2 := Lib.hid (R1.out.drewN nq)
                change (w1.drewN nq).cell? _ = _ at l6 m6
                generalize w1.drewN nq = w2 at l6 m6 R2 ⊢
                clear R1
                go_wp2_with fail
                go_still_tail 9, (by kernel_rfl)
                change wpList _ _ _ _ _ w2.drew
                have R3 := Lib.hid R2.out.drew
                clear l6 m6 R2
                generalize w2.drew = w3 at R3 ⊢
                go_wp2_with fail
                refine (settledSame g bb oo cc cc' w3).mono ?_
                intro e w4 hq
                obtain ⟨rfl, hb⟩ := hq.below
                have R4 := Lib.hid (R3.out.below hb)
                clear hq hb R3
                go_wp2
                go_ret
                exact ⟨ret_int hr0.out.symm, R4.out.more hfin⟩
              · have C2 : Hid (∀ wd, Run w wd g x k hi → Calls Tryd.prog 43 #[.pointer (some ⟨g, 0, none⟩), .slice (some ⟨bb, oo, none⟩) 2 cc, .slice (some ⟨bb', oo', none⟩) 2 cc'] wd (fun e w' => e = .returned (.bool false) ∧ Run w w' g x k (hi + 1))) := by
                  intro wd hrun
                  exact settledOther g bb oo cc bb' oo' cc' w wd x k hi (fun n => ptr_ne (hC.run HS.out HG.out (hrun.drewN n)).1.2 (hC'.run HS.out HG.out (hrun.drewN n)).1.2 hsame) hrun hlim
                have HR := Lib.hid hr
                have hfin2 : hi + 1 + c.nodes ≤ k + m := by omega
                clear hA hA' hr h0 hy hy' hC hC' hE hE' hnn hcy hcy' hsame
                go_wp2_with fail
                refine C1.out.mono ?_
                rintro e' w1 ⟨rfl, hb1⟩
                have R1 := Lib.hid (hR.out.below hb1)
                obtain ⟨l6, m6⟩ := L6.out w1 hi R1.out
                clear hb1 hR
                go_wp2_with fail
                go_quiet ((go_at_call 42; exact quiet_same (cmpAny _ _ _)))
                have R2 := Lib.hid (R1.out.drewN nq)
                change (w1.drewN nq).cell? _ = _ at l6 m6
                generalize w1.drewN nq = w2 at l6 m6 R2 ⊢
                clear R1
                go_wp2_with fail
                go_still_tail 9, (by kernel_rfl)
                change wpList _ _ _ _ _ w2.drew
                have R3 := Lib.hid R2.out.drew
                clear l6 m6 R2
                generalize w2.drew = w3 at R3 ⊢
                go_wp2_with fail
                refine (C2.out w3 R3.out).mono ?_
                rintro e' w4 ⟨rfl, hr4⟩
                obtain ⟨l6, m6⟩ := L6.out w4 _ hr4
                have R4 : Hid (Run w w4 g x k (hi + 1 + 0 * c.nodes)) := hr4.more (by omega)
                clear hr4 R3 C2 C1
                go_wp2_with fail
                clear l6 m6
                go_loopw [50] (fun v wr => ∃ i : Nat, i ≤ 1 ∧ v = .int .i64 i ∧ Hid (Run w wr g x k (hi + 1 + i * c.nodes)) ∧ Hid (0 < i → ordX x c c' = 0)) (fun v _ => 1 - (intOf v).toNat)
                case atStart => exact ⟨0, by omega, rfl, R4, fun h => by omega⟩
                case round =>
                  clear R4
                  obtain ⟨i, hi1, rfl, R5, HO⟩ := hrel
                  obtain ⟨w5, rfl⟩ : ∃ w5 : World, w5 = wr := ⟨_, rfl⟩
                  obtain ⟨l6, m6⟩ := L6.out w5 _ R5.out
                  by_cases hi0 : i = 0
                  · subst hi0
                    have R6 : Hid (Run w w5 g x k (hi + 1)) := R5.out.more (by omega)
                    clear R5 hi1 HO
                    go_wp2_with fail
                    go_still_tail 13, (by kernel_rfl)
                    change wpList _ _ _ _ _ w5.drew
                    have R7 := Lib.hid R6.out.drew
                    clear l6 m6 R6
                    generalize w5.drew = w6 at R7 ⊢
                    go_wp2_with fail
                    refine (C3.out w6 R7.out).mono ?_
                    rintro e' w7 ⟨rfl, hr7⟩
                    have R8 := Lib.hid hr7
                    clear hr7 R7
                    by_cases hz : ordX x c c' = 0
                    · have hzn : (ordX x c c' != 0) = false := by rw [hz]; rfl
                      have HZ := Lib.hid hz
                      clear hz
                      go_wp2
                      go_roundw
                      case rel => exact ⟨1, Nat.le_refl _, rfl, R8.out.more (by omega), fun _ => HZ.out⟩
                      case measure => simp [intOf]
                    · have hzn : (ordX x c c' != 0) = true := by rw [bne_iff_ne]; exact hz
                      have HZ : Hid (r = ordX x c c') := by show _ = _; rw [← HR.out]; unfold next; rw [if_neg hz]
                      clear hz
                      go_wp2
                      go_ret
                      exact ⟨ret_int HZ.out.symm, R8.out.more hfin2⟩
                  · have hi2 : i = 1 := by omega
                    subst hi2
                    have R6 : Hid (Run w w5 g x k (hi + 1 + c.nodes)) := R5.out.more (by omega)
                    have HZ : Hid (ordX x e e' = r) := by
                      show _ = _
                      rw [← HR.out]
                      unfold next
                      rw [if_pos (HO.out (by omega))]
                    clear R5 hi1 HO hi0
                    go_wp2_with fail
                    go_quiet (fail)
                    have R7 := Lib.hid (R6.out.drewN nq)
                    clear l6 m6 R6
                    generalize w5.drewN nq = w6 at R7 ⊢
                    go_wp2
                    go_roundg e.nodes
                    case measure => exact heg
                    case rel => exact ⟨e, e', bb, oo + 7, bb', oo' + 7, hi + 1 + c.nodes, rfl, rfl, Nat.le_refl _, hem, hce, ⟨HE.out.1, HE.out.2.1, HE.out.2.2.1, HE.out.2.2.2, HZ.out⟩, R7⟩
            | _ => simp [Ob.isCons] at hcy'
          | _ => simp [Ob.isCons] at hcy
      · have hr1 := Lib.hid ((owp_ne h0).symm.trans hr)
        have hn : (owp x y y' != 0) = true := by rw [bne_iff_ne]; exact h0
        have hfin : k + m ≥ hi := by omega
        clear hA hA' hr h0 hy hy' L6
        go_wp2_with fail
        refine C1.out.mono ?_
        rintro e w1 ⟨rfl, hb1⟩
        have R1 := Lib.hid (hR.out.below hb1)
        clear hb1 hR
        go_wp2
        go_ret
        exact ⟨ret_int hr1.out, R1.out.more hfin⟩
end Go.Proofs.YtfnkmgipjemkdaaDoor

/- The program's Compare and Equal. -/
namespace Go.Proofs.YtfnkmgipjemkdaaDoor
open Go Go.RowKit
set_option linter.unusedVariables false

/-- Three blocks made one after another: two objects and a comparison. -/
theorem three (a a' : Ob) (p p' : Value) (w : World) (S : Nat → Prop) (hS : In S w) (ha : Pair w S a p) (ha' : Pair w S a' p') (x : Bool) :
    ∃ W, W = ((w.alloc (.cells (cellsO a p).toArray 27)).alloc (.cells (cellsO a' p').toArray 27)).alloc (.cells #[.bool x, .int .i64 0, .map none] 47) ∧
      Below w.heap.size w W ∧ W.heap.size = w.heap.size + 3 ∧ At W (fun b => S b ∨ b = w.heap.size ∨ b = w.heap.size + 1) a w.heap.size 0 p ∧ At W (fun b => S b ∨ b = w.heap.size ∨ b = w.heap.size + 1) a' (w.heap.size + 1) 0 p' ∧ CmpAt W (w.heap.size + 2) x 0 := by
  refine ⟨_, rfl, ?_⟩
  have hb : Below w.heap.size w (((w.alloc (.cells (cellsO a p).toArray 27)).alloc (.cells (cellsO a' p').toArray 27)).alloc (.cells #[.bool x, .int .i64 0, .map none] 47)) :=
    Below.alloc (Below.alloc (Below.alloc (Below.refl _ _) (Nat.le_refl _) _) (by simp) _) (by simp; omega) _
  have h0 : (((w.alloc (.cells (cellsO a p).toArray 27)).alloc (.cells (cellsO a' p').toArray 27)).alloc (.cells #[.bool x, .int .i64 0, .map none] 47)).heap[w.heap.size]? = some (.cells (cellsO a p).toArray 27 (0, 0)) := by
    rw [Below.heap_alloc _ _ _ (by simp; omega)]; exact heap_alloc2_old w _ _
  have h1 : (((w.alloc (.cells (cellsO a p).toArray 27)).alloc (.cells (cellsO a' p').toArray 27)).alloc (.cells #[.bool x, .int .i64 0, .map none] 47)).heap[w.heap.size + 1]? = some (.cells (cellsO a' p').toArray 27 (0, 0)) := by
    rw [Below.heap_alloc _ _ _ (by simp)]; exact heap_alloc2_new w _ _
  refine ⟨hb, by simp, ⟨⟨.inr (.inl rfl), _, _, h0⟩, fun j u hj => ?_, (ha.below hS hb).more fun _ h => .inl h⟩, ⟨⟨.inr (.inr rfl), _, _, h1⟩, fun j u hj => ?_, (ha'.below hS hb).more fun _ h => .inl h⟩, heap_new_at (by simp)⟩
  · rw [Nat.zero_add, cell_of_row _ _ _ _ _ _ h0, ← hj]; simp
  · rw [Nat.zero_add, cell_of_row _ _ _ _ _ _ h1, ← hj]; simp
/-- What order returns on them. -/
theorem orderTop (d : Nat) (hd : d ≤ 1000) (a a' : Ob) (p p' : Value) (w : World) (S : Nat → Prop) (hS : In S w) (ha : Pair w S a p) (ha' : Pair w S a' p') (hb : a.bd d) (hb' : a'.bd d) (hn : a.nodes ≤ 3000) (x : Bool) :
    Calls Tryd.prog 24 #[.pointer (some ⟨w.heap.size + 1 + 1, 0, none⟩), .pointer (some ⟨w.heap.size, 0, none⟩), .pointer (some ⟨w.heap.size + 1, 0, none⟩)] (((w.alloc (.cells (cellsO a p).toArray 27)).alloc (.cells (cellsO a' p').toArray 27)).alloc (.cells #[.bool x, .int .i64 0, .map none] 47))
      (fun e w' => e = .returned (.int .i64 (ordX x a a')) ∧ Below w.heap.size w w') := by
  obtain ⟨W, e, h1, h2, h3, h4, h5⟩ := three a a' p p' w S hS ha ha' x
  rw [← e]
  refine (orderO d hd a.nodes a a' w.heap.size 0 (w.heap.size + 1) 0 p p' W _ (w.heap.size + 2) x 0 (Nat.le_refl _) hb hb' h3 h4 (fun b hb => ?_) (fun h => ?_) h5 (by omega)).mono ?_
  · rcases hb with hb | rfl | rfl
    · have := hS b hb; omega
    · omega
    · omega
  · rcases h with h | h | h
    · have := hS _ h; omega
    · omega
    · omega
  · rintro e w' ⟨he, hr⟩
    exact ⟨he, hr.1.os.trans h1.os, hr.1.tape.trans h1.tape, hr.1.output.trans h1.output, Nat.le_trans h1.size hr.1.size, fun b hlt => (hr.1.block b (by omega) (fun e => by injection e with e; omega)).trans (h1.block b hlt)⟩
set_option maxHeartbeats 4000000 in
set_option maxRecDepth 100000 in
theorem compareP (d : Nat) (hd : d ≤ 1000) (a a' : Ob) (p p' : Value) (w : World) (S : Nat → Prop) (hS : In S w) (ha : Pair w S a p) (ha' : Pair w S a' p') (hb : a.bd d) (hb' : a'.bd d) (hn : a.nodes ≤ 3000) :
    Calls Tryd.prog 18 #[vO a p, vO a' p'] w (RetI w (ordO a a')) := by
  have call := Lib.hid (orderTop d hd a a' p p' w S hS ha ha' hb hb' hn false)
  obtain ⟨x0, x1, x2, x3, x4, x5, e⟩ := cells7 a p
  obtain ⟨y0, y1, y2, y3, y4, y5, e'⟩ := cells7 a' p'
  rw [e, e'] at call
  unfold vO
  rw [e, e']
  clear e e' ha ha' hb hb' hS hn
  go_enter Tryd.func18, Tryd.ntmps18
  go_wp2_with fail
  refine call.out.mono ?_
  rintro e w' ⟨rfl, hb⟩
  have HB := Lib.hid hb
  clear hb call
  go_wp2
  go_ret
  exact ⟨rfl, HB.out⟩
set_option maxHeartbeats 4000000 in
set_option maxRecDepth 100000 in
theorem equalP (d : Nat) (hd : d ≤ 1000) (a a' : Ob) (p p' : Value) (w : World) (S : Nat → Prop) (hS : In S w) (ha : Pair w S a p) (ha' : Pair w S a' p') (hb : a.bd d) (hb' : a'.bd d) (hn : a.nodes ≤ 3000) :
    Calls Tryd.prog 7 #[vO a p, vO a' p'] w (RetB w (decide (a = a'))) := by
  have call := Lib.hid (orderTop d hd a a' p p' w S hS ha ha' hb hb' hn true)
  obtain ⟨x0, x1, x2, x3, x4, x5, e⟩ := cells7 a p
  obtain ⟨y0, y1, y2, y3, y4, y5, e'⟩ := cells7 a' p'
  rw [e, e'] at call
  unfold vO
  rw [e, e']
  have hr : Hid ((eqI a a' == 0) = decide (a = a')) := by
    show _ = _
    unfold eqI
    by_cases h : a = a' <;> simp [h]
  have hx : Hid (ordX true a a' = eqI a a') := rfl
  rw [hx.out] at call
  rw [← hr.out]
  generalize eqI a a' = q at call ⊢
  clear hr hx e e' ha ha' hb hb' hS hn
  go_enter Tryd.func7, Tryd.ntmps7
  go_wp2_with fail
  refine call.out.mono ?_
  rintro e w' ⟨rfl, hb⟩
  have HB := Lib.hid hb
  clear hb call
  go_wp2
  go_ret
  exact ⟨rfl, HB.out⟩
end Go.Proofs.YtfnkmgipjemkdaaDoor
