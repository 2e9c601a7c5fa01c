import Derived.Test.YtlmnjelideegnaaGreatDoorDl
import Derived.Test.YtlmnjelideegnaaGreatDoorM11
import Derived.StillTailTactics
namespace Go.Proofs.YtlmnjelideegnaaGreatDoor
open Go Go.RowKit
set_option linter.unusedVariables false
set_option maxHeartbeats 32000000
set_option maxRecDepth 100000
def EqW (w W wr : World) (r0 r1 : Bool) (k : Nat) : Prop := (0 < k → r0 = true) ∧ (1 < k → r1 = true) ∧ Below W.heap.size W wr

def EqPost (w : World) (r : Bool) (e : Ending) (w' : World) : Prop := e = .returned (.bool r) ∧ Below w.heap.size w w'

theorem equalCC (b o c b' o' c' : Nat) (w : World) (x0 x1 x2 x3 x4 x5 x6 y0 y1 y2 y3 y4 y5 y6 z0 z1 z2 z3 z4 z5 z6 t0 t1 t2 t3 t4 t5 t6 : Value) (r0 r1 : Bool)
 (hb : b < w.heap.size) (hb' : b' < w.heap.size) (hc : 2 ≤ c) (hc' : 2 ≤ c')
 (hx : ∀ j u, #[x0, x1, x2, x3, x4, x5, x6, y0, y1, y2, y3, y4, y5, y6][j]? = some u → w.cell? ⟨b, o + j, none⟩ = some u)
 (hz : ∀ j u, #[z0, z1, z2, z3, z4, z5, z6, t0, t1, t2, t3, t4, t5, t6][j]? = some u → w.cell? ⟨b', o' + j, none⟩ = some u)
 (ih0 : ∀ w', Below w.heap.size w w' → Calls Tryz.prog 23 #[.agg #[x0, x1, x2, x3, x4, x5, x6], .agg #[z0, z1, z2, z3, z4, z5, z6]] w' (EqPost w' r0))
 (ih1 : ∀ w', Below w.heap.size w w' → Calls Tryz.prog 23 #[.agg #[y0, y1, y2, y3, y4, y5, y6], .agg #[t0, t1, t2, t3, t4, t5, t6]] w' (EqPost w' r1)) :
 Calls Tryz.prog 23 #[.agg #[.int .i64 4, e0, e0, e0, e0, e0, .slice (some ⟨b, o, none⟩) 2 c], .agg #[.int .i64 4, e0, e0, e0, e0, e0, .slice (some ⟨b', o', none⟩) 2 c']] w (EqPost w (r0 && r1)) := by
 unfold e0
 have hX := qh9 hx
 have hZ := qh9 hz
 have I0 := qh9 ih0
 have I1 := qh9 ih1
 clear hx hz ih0 ih1
 go_enter Tryz.func23, Tryz.ntmps23
 go_wp2_with fail
 have c2 := qh9 (show ((w.alloc (Obj.cells #[Value.int IntKind.i64 4, Value.string { data := #[] }, Value.string { data := #[] }, Value.string { data := #[] }, Value.string { data := #[] }, Value.string { data := #[] }, Value.slice (some { block := b, off := o }) 2 c] 39)).alloc (Obj.cells #[Value.int IntKind.i64 4, Value.string { data := #[] }, Value.string { data := #[] }, Value.string { data := #[] }, Value.string { data := #[] }, Value.string { data := #[] }, Value.slice (some { block := b', off := o' }) 2 c'] 39)).cell? ⟨w.heap.size, 6, none⟩ = some (Value.slice (some { block := b, off := o }) 2 c) from by
  rw [cell_of_row _ _ _ _ _ _ (heap_alloc2_old w _ _)]; rfl)
 have c3 := qh9 (show ((w.alloc (Obj.cells #[Value.int IntKind.i64 4, Value.string { data := #[] }, Value.string { data := #[] }, Value.string { data := #[] }, Value.string { data := #[] }, Value.string { data := #[] }, Value.slice (some { block := b, off := o }) 2 c] 39)).alloc (Obj.cells #[Value.int IntKind.i64 4, Value.string { data := #[] }, Value.string { data := #[] }, Value.string { data := #[] }, Value.string { data := #[] }, Value.string { data := #[] }, Value.slice (some { block := b', off := o' }) 2 c'] 39)).cell? ⟨w.heap.size + 1, 6, none⟩ = some (Value.slice (some { block := b', off := o' }) 2 c') from by
  rw [cell_of_row _ _ _ _ _ _ (heap_alloc2_new w _ _)]; rfl)
 have hW := Below.alloc (Below.alloc (Below.refl w.heap.size w) (Nat.le_refl _) (Obj.cells #[Value.int IntKind.i64 4, Value.string { data := #[] }, Value.string { data := #[] }, Value.string { data := #[] }, Value.string { data := #[] }, Value.string { data := #[] }, Value.slice (some { block := b, off := o }) 2 c] 39)) (by simp) (Obj.cells #[Value.int IntKind.i64 4, Value.string { data := #[] }, Value.string { data := #[] }, Value.string { data := #[] }, Value.string { data := #[] }, Value.string { data := #[] }, Value.slice (some { block := b', off := o' }) 2 c'] 39)
 have hS : ((w.alloc (Obj.cells #[Value.int IntKind.i64 4, Value.string { data := #[] }, Value.string { data := #[] }, Value.string { data := #[] }, Value.string { data := #[] }, Value.string { data := #[] }, Value.slice (some { block := b, off := o }) 2 c] 39)).alloc (Obj.cells #[Value.int IntKind.i64 4, Value.string { data := #[] }, Value.string { data := #[] }, Value.string { data := #[] }, Value.string { data := #[] }, Value.string { data := #[] }, Value.slice (some { block := b', off := o' }) 2 c'] 39)).heap.size = w.heap.size + 2 := by simp
 generalize (w.alloc (Obj.cells #[Value.int IntKind.i64 4, Value.string { data := #[] }, Value.string { data := #[] }, Value.string { data := #[] }, Value.string { data := #[] }, Value.string { data := #[] }, Value.slice (some { block := b, off := o }) 2 c] 39)).alloc (Obj.cells #[Value.int IntKind.i64 4, Value.string { data := #[] }, Value.string { data := #[] }, Value.string { data := #[] }, Value.string { data := #[] }, Value.string { data := #[] }, Value.slice (some { block := b', off := o' }) 2 c'] 39) = W at c2 c3 hW hS ⊢
 have hS1 : w.heap.size + 2 ≤ W.heap.size := by omega
 clear hS
 go_loopw [5] (fun v wr => ∃ k : Nat, k ≤ 2 ∧ v = .int .i64 k ∧ Hid (EqW w W wr r0 r1 k)) (fun v _ => 2 - (intOf v).toNat)
 case atStart => exact ⟨0, by omega, rfl, ⟨fun h => by omega, fun h => by omega, Below.refl _ _⟩⟩
 case round =>
  obtain ⟨k, hk, rfl, hE⟩ := hrel
  obtain ⟨wo, rfl⟩ : ∃ wo : World, wo = wr := ⟨_, rfl⟩
  obtain ⟨g0, g1, hb1⟩ := hE.out
  clear hE
  have G0 := qh9 g0
  have G1 := qh9 g1
  clear g0 g1
  have d2 : wo.cell? ⟨w.heap.size, 6, none⟩ = some (Value.slice (some { block := b, off := o }) 2 c) := (hb1.cell (p := ⟨w.heap.size, 6, none⟩) (by show w.heap.size < _; omega)).trans c2.out
  have d3 : wo.cell? ⟨w.heap.size + 1, 6, none⟩ = some (Value.slice (some { block := b', off := o' }) 2 c') := (hb1.cell (p := ⟨w.heap.size + 1, 6, none⟩) (by show w.heap.size + 1 < _; omega)).trans c3.out
  have hbw : Below w.heap.size w wo := hW.trans (hb1.mono hW.size)
  have lx : ∀ j u, #[x0, x1, x2, x3, x4, x5, x6, y0, y1, y2, y3, y4, y5, y6][j]? = some u → wo.cell? ⟨b, o + j, none⟩ = some u := fun j u h => (hbw.cell (p := ⟨b, o + j, none⟩) hb).trans (hX.out j u h)
  have lz : ∀ j u, #[z0, z1, z2, z3, z4, z5, z6, t0, t1, t2, t3, t4, t5, t6][j]? = some u → wo.cell? ⟨b', o' + j, none⟩ = some u := fun j u h => (hbw.cell (p := ⟨b', o' + j, none⟩) hb').trans (hZ.out j u h)
  by_cases hk0 : k = 0
  · subst hk0
    have l0 := lx 0 _ rfl
    have l1 := lx 1 _ rfl
    have l2 := lx 2 _ rfl
    have l3 := lx 3 _ rfl
    have l4 := lx 4 _ rfl
    have l5 := lx 5 _ rfl
    have l6 := lx 6 _ rfl
    have m0 := lz 0 _ rfl
    have m1 := lz 1 _ rfl
    have m2 := lz 2 _ rfl
    have m3 := lz 3 _ rfl
    have m4 := lz 4 _ rfl
    have m5 := lz 5 _ rfl
    have m6 := lz 6 _ rfl
    rw [Nat.add_zero] at l0 m0
    clear lx lz
    go_wp2_with fail
    go_still_tail 10, (by kernel_rfl)
    change wpList _ _ _ _ _ wo.drew
    have hbd : Below w.heap.size w wo.drew := hbw.drew
    have hbd2 : Below W.heap.size W wo.drew := hb1.drew
    generalize wo.drew = wd at hbd hbd2 ⊢
    clear l0 l1 l2 l3 l4 l5 l6 m0 m1 m2 m3 m4 m5 m6 d2 d3 hbw hb1
    go_wp2_with fail
    refine (I0.out wd hbd).mono ?_
    rintro e w3 ⟨rfl, hb3⟩
    have hbe := qh9 (hbd.trans (hb3.mono hbd.size))
    have hbe2 := qh9 (hbd2.trans (hb3.mono hbd2.size))
    clear hb3 hbd hbd2
    cases r0
    · go_wp2
      go_ret
      exact ⟨by simp, hbe.out⟩
    · go_wp2
      go_roundw
      case rel => exact ⟨0 + 1, by omega, rfl, ⟨fun _ => rfl, fun h => by omega, hbe2.out⟩⟩
      case measure => simp [intOf]
  · by_cases hk1 : k = 1
    · subst hk1
      have q0 : r0 = true := G0.out (by omega)
      subst q0
      have l0 := lx 7 _ rfl
      have l1 := lx 8 _ rfl
      have l2 := lx 9 _ rfl
      have l3 := lx 10 _ rfl
      have l4 := lx 11 _ rfl
      have l5 := lx 12 _ rfl
      have l6 := lx 13 _ rfl
      have m0 := lz 7 _ rfl
      have m1 := lz 8 _ rfl
      have m2 := lz 9 _ rfl
      have m3 := lz 10 _ rfl
      have m4 := lz 11 _ rfl
      have m5 := lz 12 _ rfl
      have m6 := lz 13 _ rfl
      clear lx lz
      go_wp2_with fail
      go_still_tail 10, (by kernel_rfl)
      change wpList _ _ _ _ _ wo.drew
      have hbd : Below w.heap.size w wo.drew := hbw.drew
      have hbd2 : Below W.heap.size W wo.drew := hb1.drew
      generalize wo.drew = wd at hbd hbd2 ⊢
      clear l0 l1 l2 l3 l4 l5 l6 m0 m1 m2 m3 m4 m5 m6 d2 d3 hbw hb1
      go_wp2_with fail
      refine (I1.out wd hbd).mono ?_
      rintro e w3 ⟨rfl, hb3⟩
      have hbe := qh9 (hbd.trans (hb3.mono hbd.size))
      have hbe2 := qh9 (hbd2.trans (hb3.mono hbd2.size))
      clear hb3 hbd hbd2
      cases r1
      · go_wp2
        go_ret
        exact ⟨by simp, hbe.out⟩
      · go_wp2
        go_roundw
        case rel => exact ⟨1 + 1, by omega, rfl, ⟨fun _ => rfl, fun _ => rfl, hbe2.out⟩⟩
        case measure => simp [intOf]
    · have hk2 : k = 2 := by omega
      subst hk2
      have q0 : r0 = true := G0.out (by omega)
      have q1 : r1 = true := G1.out (by omega)
      subst q0 q1
      have hbx := qh9 hbw
      clear lx lz hb1 hbw
      go_wp2
      go_ret
      exact ⟨rfl, hbx.out⟩
def eqS (s1 s2 s3 s4 s5 t1 t2 t3 t4 t5 : ByteArray) : Bool := s1.toList == t1.toList && s2.toList == t2.toList && (s3.toList == t3.toList && s4.toList == t4.toList) && s5.toList == t5.toList

theorem eqKind (k k' : Int) (hk : k ≠ k') (x1 x2 x3 x4 x5 x6 y1 y2 y3 y4 y5 y6 : Value) (w : World) :
 Calls Tryz.prog 23 #[.agg #[.int .i64 k, x1, x2, x3, x4, x5, x6], .agg #[.int .i64 k', y1, y2, y3, y4, y5, y6]] w (EqPost w false) := by
 have h1 : (k == k') = false := by rw [beq_eq_false_iff_ne]; exact hk
 have h2 : (k != k') = true := by rw [bne_iff_ne]; exact hk
 clear hk
 go_enter Tryz.func23, Tryz.ntmps23
 go_wp2_with fail
 all_goals go_ret
 all_goals exact ⟨rfl, Below.alloc (Below.alloc (Below.refl _ _) (Nat.le_refl _) _) (by simp) _⟩

theorem eqFlat (k : Int) (s1 s2 s3 s4 s5 t1 t2 t3 t4 t5 : ByteArray) (w : World) :
 Calls Tryz.prog 23 #[.agg #[.int .i64 k, .string s1, .string s2, .string s3, .string s4, .string s5, .slice none 0 0], .agg #[.int .i64 k, .string t1, .string t2, .string t3, .string t4, .string t5, .slice none 0 0]] w (EqPost w (eqS s1 s2 s3 s4 s5 t1 t2 t3 t4 t5)) := by
 cases h1 : (s1.toList == t1.toList) with
 | false =>
  have hr : eqS s1 s2 s3 s4 s5 t1 t2 t3 t4 t5 = false := by unfold eqS; rw [h1]; simp
  rw [hr]
  clear hr
  go_enter Tryz.func23, Tryz.ntmps23
  go_wp2_with fail
  all_goals go_ret
  all_goals exact ⟨rfl, Below.alloc (Below.alloc (Below.refl _ _) (Nat.le_refl _) _) (by simp) _⟩
 | true =>
  cases h2 : (s2.toList == t2.toList) with
  | false =>
   have hr : eqS s1 s2 s3 s4 s5 t1 t2 t3 t4 t5 = false := by unfold eqS; rw [h1, h2]; simp
   rw [hr]
   clear hr
   go_enter Tryz.func23, Tryz.ntmps23
   go_wp2_with fail
   all_goals go_ret
   all_goals exact ⟨rfl, Below.alloc (Below.alloc (Below.refl _ _) (Nat.le_refl _) _) (by simp) _⟩
  | true =>
   cases h3 : (s3.toList == t3.toList) with
   | false =>
    have hr : eqS s1 s2 s3 s4 s5 t1 t2 t3 t4 t5 = false := by unfold eqS; rw [h1, h2, h3]; simp
    rw [hr]
    clear hr
    go_enter Tryz.func23, Tryz.ntmps23
    go_wp2_with fail
    all_goals go_ret
    all_goals exact ⟨rfl, Below.alloc (Below.alloc (Below.refl _ _) (Nat.le_refl _) _) (by simp) _⟩
   | true =>
    cases h4 : (s4.toList == t4.toList) with
    | false =>
     have hr : eqS s1 s2 s3 s4 s5 t1 t2 t3 t4 t5 = false := by unfold eqS; rw [h1, h2, h3, h4]; simp
     rw [hr]
     clear hr
     go_enter Tryz.func23, Tryz.ntmps23
     go_wp2_with fail
     all_goals go_ret
     all_goals exact ⟨rfl, Below.alloc (Below.alloc (Below.refl _ _) (Nat.le_refl _) _) (by simp) _⟩
    | true =>
     cases h5 : (s5.toList == t5.toList) with
     | false =>
      have hr : eqS s1 s2 s3 s4 s5 t1 t2 t3 t4 t5 = false := by unfold eqS; rw [h1, h2, h3, h4, h5]; simp
      rw [hr]
      clear hr
      go_enter Tryz.func23, Tryz.ntmps23
      go_wp2_with fail
      all_goals go_ret
      all_goals exact ⟨rfl, Below.alloc (Below.alloc (Below.refl _ _) (Nat.le_refl _) _) (by simp) _⟩
     | true =>
      have hr : eqS s1 s2 s3 s4 s5 t1 t2 t3 t4 t5 = true := by unfold eqS; rw [h1, h2, h3, h4, h5]; rfl
      rw [hr]
      clear hr
      go_enter Tryz.func23, Tryz.ntmps23
      go_wp2_with fail
      refine wp_loop_once ?_
      go_wp2_with fail
      all_goals go_ret
      all_goals exact ⟨rfl, Below.alloc (Below.alloc (Below.refl _ _) (Nat.le_refl _) _) (by simp) _⟩
theorem beq_BA (l m : List UInt8) : ((BA l).toList == (BA m).toList) = decide (l = m) := by
 rw [Lib.toList_data, Lib.toList_data]
 by_cases h : l = m
 · subst h; simp
 · rw [decide_eq_false h, beq_eq_false_iff_ne]
   intro e
   apply h
   unfold BA at e
   simpa using e

theorem equalO : ∀ (a b : Ob) (pa pb : Value) (w : World) (S : Nat → Prop), In S w → Pair w S a pa → Pair w S b pb →
 Calls Tryz.prog 23 #[vO a pa, vO b pb] w (EqPost w (decide (a = b))) := by
 intro a
 induction a with
 | num q =>
  intro b pa pb w S hS ha hb
  have e : pa = .slice none 0 0 := ha
  subst e
  cases b with
  | num q' =>
   have e : pb = .slice none 0 0 := hb
   subst e
   have h := eqFlat 1 (nt q) (dt q) ⟨#[]⟩ ⟨#[]⟩ ⟨#[]⟩ (nt q') (dt q') ⟨#[]⟩ ⟨#[]⟩ ⟨#[]⟩ w
   have hr : eqS (nt q) (dt q) ⟨#[]⟩ ⟨#[]⟩ ⟨#[]⟩ (nt q') (dt q') ⟨#[]⟩ ⟨#[]⟩ ⟨#[]⟩ = decide (Ob.num q = Ob.num q') := by
    unfold eqS
    rw [q_beq]
    simp
   rw [hr] at h
   exact h
  | str s => rw [decide_eq_false (by simp)]; exact eqKind 1 3 (by decide) _ _ _ _ _ _ _ _ _ _ _ _ w
  | sym p n => rw [decide_eq_false (by simp)]; exact eqKind 1 2 (by decide) _ _ _ _ _ _ _ _ _ _ _ _ w
  | cons x y => rw [decide_eq_false (by simp)]; exact eqKind 1 4 (by decide) _ _ _ _ _ _ _ _ _ _ _ _ w
 | str s =>
  intro b pa pb w S hS ha hb
  have e : pa = .slice none 0 0 := ha
  subst e
  cases b with
  | num q' => rw [decide_eq_false (by simp)]; exact eqKind 3 1 (by decide) _ _ _ _ _ _ _ _ _ _ _ _ w
  | str s' =>
   have e : pb = .slice none 0 0 := hb
   subst e
   have h := eqFlat 3 ⟨#[]⟩ ⟨#[]⟩ ⟨#[]⟩ ⟨#[]⟩ (BA s) ⟨#[]⟩ ⟨#[]⟩ ⟨#[]⟩ ⟨#[]⟩ (BA s') w
   have hr : eqS ⟨#[]⟩ ⟨#[]⟩ ⟨#[]⟩ ⟨#[]⟩ (BA s) ⟨#[]⟩ ⟨#[]⟩ ⟨#[]⟩ ⟨#[]⟩ (BA s') = decide (Ob.str s = Ob.str s') := by
    unfold eqS
    rw [beq_BA]
    simp
   rw [hr] at h
   exact h
  | sym p n => rw [decide_eq_false (by simp)]; exact eqKind 3 2 (by decide) _ _ _ _ _ _ _ _ _ _ _ _ w
  | cons x y => rw [decide_eq_false (by simp)]; exact eqKind 3 4 (by decide) _ _ _ _ _ _ _ _ _ _ _ _ w
 | sym p n =>
  intro b pa pb w S hS ha hb
  have e : pa = .slice none 0 0 := ha
  subst e
  cases b with
  | num q' => rw [decide_eq_false (by simp)]; exact eqKind 2 1 (by decide) _ _ _ _ _ _ _ _ _ _ _ _ w
  | str s' => rw [decide_eq_false (by simp)]; exact eqKind 2 3 (by decide) _ _ _ _ _ _ _ _ _ _ _ _ w
  | sym p' n' =>
   have e : pb = .slice none 0 0 := hb
   subst e
   have h := eqFlat 2 ⟨#[]⟩ ⟨#[]⟩ (BA p) (BA n) ⟨#[]⟩ ⟨#[]⟩ ⟨#[]⟩ (BA p') (BA n') ⟨#[]⟩ w
   have hr : eqS ⟨#[]⟩ ⟨#[]⟩ (BA p) (BA n) ⟨#[]⟩ ⟨#[]⟩ ⟨#[]⟩ (BA p') (BA n') ⟨#[]⟩ = decide (Ob.sym p n = Ob.sym p' n') := by
    unfold eqS
    rw [beq_BA, beq_BA]
    simp
   rw [hr] at h
   exact h
  | cons x y => rw [decide_eq_false (by simp)]; exact eqKind 2 4 (by decide) _ _ _ _ _ _ _ _ _ _ _ _ w
 | cons a d iha ihd =>
  intro b pa pb w S hS ha hb
  cases b with
  | num q' => rw [decide_eq_false (by simp)]; exact eqKind 4 1 (by decide) _ _ _ _ _ _ _ _ _ _ _ _ w
  | str s' => rw [decide_eq_false (by simp)]; exact eqKind 4 3 (by decide) _ _ _ _ _ _ _ _ _ _ _ _ w
  | sym p' n' => rw [decide_eq_false (by simp)]; exact eqKind 4 2 (by decide) _ _ _ _ _ _ _ _ _ _ _ _ w
  | cons a' d' =>
   obtain ⟨g, o, c, qa, qd, rfl, hc, hg, hx, h1, h2⟩ := ha
   obtain ⟨g', o', c', qa', qd', rfl, hc', hg', hx', h1', h2'⟩ := hb
   have k1 := fun w' (hw : Below w.heap.size w w') => iha a' qa qa' w' S (hS.later hw.size) (h1.below hS hw) (h1'.below hS hw)
   have k2 := fun w' (hw : Below w.heap.size w w') => ihd d' qd qd' w' S (hS.later hw.size) (h2.below hS hw) (h2'.below hS hw)
   have hr : decide (Ob.cons a d = Ob.cons a' d') = (decide (a = a') && decide (d = d')) := by
    rw [← Bool.decide_and]
    simp
   rw [hr]
   unfold vO at k1 k2
   obtain ⟨x0, x1, x2, x3, x4, x5, ea⟩ := cells7 a qa
   obtain ⟨y0, y1, y2, y3, y4, y5, ed⟩ := cells7 d qd
   obtain ⟨z0, z1, z2, z3, z4, z5, ea'⟩ := cells7 a' qa'
   obtain ⟨t0, t1, t2, t3, t4, t5, ed'⟩ := cells7 d' qd'
   rw [ea, ed] at hx
   rw [ea', ed'] at hx'
   rw [ea, ea'] at k1
   rw [ed, ed'] at k2
   exact equalCC g o c g' o' c' w x0 x1 x2 x3 x4 x5 qa y0 y1 y2 y3 y4 y5 qd z0 z1 z2 z3 z4 z5 qa' t0 t1 t2 t3 t4 t5 qd' _ _ (hS g hg.1) (hS g' hg'.1) hc hc'
    (fun j u h => hx j u (by simpa using h)) (fun j u h => hx' j u (by simpa using h)) k1 k2
theorem tmod_emod (n m : Int) (hm : 0 < m) : (if n.tmod m < 0 then n.tmod m + m else n.tmod m) = n % m := by
 have h := Int.emod_eq_tmod (a := n) (b := m)
 have h1 := Int.emod_nonneg n (show m ≠ 0 by omega)
 have h2 := Int.emod_lt_of_pos n hm
 rcases Int.lt_or_le n 0 with hn | hn
 · have h3 : n.tmod m = -((-n) % m) := by
    rw [← Int.tmod_eq_emod_of_nonneg (by omega), Int.neg_tmod, Int.neg_neg]
   have h4 := Int.emod_nonneg (-n) (show m ≠ 0 by omega)
   have h5 := Int.emod_lt_of_pos (-n) hm
   have h6 : (-n) % m = (if n % m = 0 then 0 else m - n % m) := by
    rw [Int.neg_emod]
    split
    · rename_i g1; rw [if_pos (Int.emod_eq_zero_of_dvd g1)]
    · rename_i g1; rw [if_neg (fun g2 => g1 (Int.dvd_of_emod_eq_zero g2))]; omega
   split at h6 <;> split <;> omega
 · rw [Int.tmod_eq_emod_of_nonneg hn]
   split <;> omega

theorem modO (n m : Int) (w : World) (hn : -9223372036854775808 ≤ n) (hn' : n ≤ 9223372036854775807) (hm : 0 < m) (hm' : m ≤ 100000) :
 Calls Tryz.prog 31 #[.int .i64 n, .int .i64 m] w fun e w' => e = .returned (.int .i64 (n % m)) ∧ w = w' := by
 have h0 := qh9 (tmod_emod n m hm)
 have b1 := Int.tmod_lt_of_pos n hm
 have b2 := Int.lt_tmod_of_pos n hm
 go_enter Tryz.func31, Tryz.ntmps31
 go_wp2_with fail
 all_goals go_ret
 all_goals refine ⟨ret_int ?_, rfl⟩
 · rename_i hq
   have := h0.out
   rw [if_pos hq] at this
   exact this
 · rename_i hq
   have := h0.out
   rw [if_neg (by omega)] at this
   exact this
theorem userO (s : ByteArray) (w : World) : Calls Tryz.prog 32 #[.string s] w fun e w' => e = .returned (.agg #[.string (BA [117, 115, 101, 114]), .string s]) ∧ Below w.heap.size w w' := by
 go_enter Tryz.func32, Tryz.ntmps32
 go_wp2_with fail
 refine bodyPost_ret (results_cell_row rfl _ _ w.heap.size _ _ _ _ rfl (heap_alloc_new w _) Tryz.underlying23 rfl (by kernel_rfl)) rfl ⟨rfl, ?_⟩
 exact Below.alloc (Below.refl _ _) (Nat.le_refl _) _
def RetSy (w : World) (e : Ending) (w' : World) : Prop := ∃ p n : List UInt8, e = .returned (.agg #[.string (BA p), .string (BA n)]) ∧ Below w.heap.size w w' ∧ SyOk p n ∧ n.length ≤ 8

theorem storeSy {ops : Array Oper} {rest : List Oper} {o : Oper} {a : Act} {w : World} {Q : Exit → Act → World → Prop} (hgd : o.guard = none) (x y : Operand) (ho : o.op = .store 23 x y)
 (g : Nat) (s1 s2 : ByteArray) (hx : a.eval x = .pointer (some ⟨g, 0, none⟩)) (hy : a.eval y = .agg #[.string s1, .string s2])
 (t : TypeId) (old : Array Value) (hg : w.heap[g]? = some (.cells old t (0, 0))) (hold : old.size = 2)
 (h : wpList Tryz.prog ops Q rest (a.put o.dst undef) (w.setRow g #[.string s1, .string s2])) : wpList Tryz.prog ops Q (o :: rest) a w :=
 wpList_store_row hgd 23 x y ho g _ hx hy t old hg (by kernel_rfl) hold (by simp [Value.oneCell']) h
theorem retSy {fn : Func} {q : Tmp} {w0 : World} {tmps : Array Value} {w : World} {g : Nat} {s1 s2 : ByteArray} {t : TypeId} {old : Array Value} {fr : Nat × Nat}
 (h : fn.results = #[.cell q 23]) (hq : tmps.getD q undef = .pointer (some ⟨g, 0, none⟩)) (hg : w.heap[g]? = some (.cells old t fr))
 (hlt : w0.heap.size ≤ g) (hb : Below w0.heap.size w0 w) (hok : SyOk (LA s1) (LA s2) ∧ (LA s2).length ≤ 8) :
 bodyPost Tryz.prog fn (RetSy w0) Exit.ret ⟨tmps, []⟩ (w.setRow g #[.string s1, .string s2]) :=
 bodyPost_ret (results_cell_row h tmps _ g t _ fr _ hq (setRow_heap _ _ _ _ _ _ hg) Tryz.underlying23 rfl (by kernel_rfl)) rfl
  ⟨LA s1, LA s2, by rw [BA_LA, BA_LA], below_setRowO hb hlt _, hok⟩

theorem symMake (n : Int) (w : World) (hn : -9223372036854775808 ≤ n) (hn' : n ≤ 9223372036854775807) :
 Calls Tryz.prog 11 #[.int .i64 n] w (RetSy w) := by
 go_enter Tryz.func11, Tryz.ntmps11
 go_wp2_with fail
 refine (modO n 13 _ hn hn' (by decide) (by decide)).mono ?_
 rintro e w1 ⟨rfl, rfl⟩
 have k0 := Int.emod_nonneg n (show (13 : Int) ≠ 0 by decide)
 have k1 := Int.emod_lt_of_pos n (show (0 : Int) < 13 by decide)
 generalize n % 13 = k at k0 k1 ⊢
 obtain ⟨j, rfl⟩ := Int.eq_ofNat_of_zero_le k0
 have hg0 := qh9 (heap_alloc2_old w (Obj.cells #[Value.string { data := #[] }, Value.string { data := #[] }] 23) (Obj.cells #[Value.string { data := #[97] }, Value.string { data := #[98] }, Value.string { data := #[102, 111, 111] }, Value.string { data := #[111, 100, 100, 32, 110, 97, 109, 101] }, Value.string { data := #[49] }, Value.string { data := #[120, 124, 121] }, Value.string { data := #[46] }, Value.string { data := #[45, 50, 47, 51] }, Value.string { data := #[35] }] 9))
 have hg1 := heap_alloc2_new w (Obj.cells #[Value.string { data := #[] }, Value.string { data := #[] }] 23) (Obj.cells #[Value.string { data := #[97] }, Value.string { data := #[98] }, Value.string { data := #[102, 111, 111] }, Value.string { data := #[111, 100, 100, 32, 110, 97, 109, 101] }, Value.string { data := #[49] }, Value.string { data := #[120, 124, 121] }, Value.string { data := #[46] }, Value.string { data := #[45, 50, 47, 51] }, Value.string { data := #[35] }] 9)
 have hW := Below.alloc (Below.alloc (Below.refl w.heap.size w) (Nat.le_refl _) (Obj.cells #[Value.string { data := #[] }, Value.string { data := #[] }] 23)) (by simp) (Obj.cells #[Value.string { data := #[97] }, Value.string { data := #[98] }, Value.string { data := #[102, 111, 111] }, Value.string { data := #[111, 100, 100, 32, 110, 97, 109, 101] }, Value.string { data := #[49] }, Value.string { data := #[120, 124, 121] }, Value.string { data := #[46] }, Value.string { data := #[45, 50, 47, 51] }, Value.string { data := #[35] }] 9)
 have hS : ((w.alloc (Obj.cells #[Value.string { data := #[] }, Value.string { data := #[] }] 23)).alloc (Obj.cells #[Value.string { data := #[97] }, Value.string { data := #[98] }, Value.string { data := #[102, 111, 111] }, Value.string { data := #[111, 100, 100, 32, 110, 97, 109, 101] }, Value.string { data := #[49] }, Value.string { data := #[120, 124, 121] }, Value.string { data := #[46] }, Value.string { data := #[45, 50, 47, 51] }, Value.string { data := #[35] }] 9)).heap.size = w.heap.size + 2 := by simp
 generalize (w.alloc (Obj.cells #[Value.string { data := #[] }, Value.string { data := #[] }] 23)).alloc (Obj.cells #[Value.string { data := #[97] }, Value.string { data := #[98] }, Value.string { data := #[102, 111, 111] }, Value.string { data := #[111, 100, 100, 32, 110, 97, 109, 101] }, Value.string { data := #[49] }, Value.string { data := #[120, 124, 121] }, Value.string { data := #[46] }, Value.string { data := #[45, 50, 47, 51] }, Value.string { data := #[35] }] 9) = W at hg0 hg1 hW hS ⊢
 have hS1 : w.heap.size + 2 ≤ W.heap.size := by omega
 clear hS
 by_cases hj : j < 9
 · obtain ⟨s, hs, hok⟩ : ∃ s, W.cell? ⟨w.heap.size + 1, j, none⟩ = some (.string s) ∧ SyOk userB (LA s) ∧ (LA s).length ≤ 8 := by
    rw [cell_of_row W _ j _ _ _ hg1]
    match j, hj with
    | 0, _ => exact ⟨_, rfl, ⟨.inr rfl, by decide, by decide⟩, by decide⟩
    | 1, _ => exact ⟨_, rfl, ⟨.inr rfl, by decide, by decide⟩, by decide⟩
    | 2, _ => exact ⟨_, rfl, ⟨.inr rfl, by decide, by decide⟩, by decide⟩
    | 3, _ => exact ⟨_, rfl, ⟨.inr rfl, by decide, by decide⟩, by decide⟩
    | 4, _ => exact ⟨_, rfl, ⟨.inr rfl, by decide, by decide⟩, by decide⟩
    | 5, _ => exact ⟨_, rfl, ⟨.inr rfl, by decide, by decide⟩, by decide⟩
    | 6, _ => exact ⟨_, rfl, ⟨.inr rfl, by decide, by decide⟩, by decide⟩
    | 7, _ => exact ⟨_, rfl, ⟨.inr rfl, by decide, by decide⟩, by decide⟩
    | 8, _ => exact ⟨_, rfl, ⟨.inr rfl, by decide, by decide⟩, by decide⟩
   have HOK : Hid (SyOk (LA (BA [117, 115, 101, 114])) (LA s) ∧ (LA s).length ≤ 8) := by rw [LA_BA]; exact hok
   clear hg1 hok
   go_wp2_with fail
   refine (userO s W).mono ?_
   rintro e w2 ⟨rfl, hb2⟩
   have hg2 := qh9 ((hb2.block w.heap.size (by omega)).trans hg0.out)
   clear hs
   go_wp2_with (refine storeSy rfl (.tmp 2) (.tmp 20) rfl w.heap.size _ _ rfl rfl _ _ hg2.out rfl ?_)
   exact retSy rfl rfl hg2.out (Nat.le_refl _) (hW.trans (hb2.mono hW.size)) HOK.out
 · clear hg1
   have hx : j = 9 ∨ j = 10 ∨ j = 11 ∨ j = 12 := by omega
   rcases hx with rfl | rfl | rfl | rfl
   · go_wp2_with fail
     refine (lispO _ W).mono ?_
     rintro e w2 ⟨rfl, hb2⟩
     have hg2 := qh9 ((hb2.block w.heap.size (by omega)).trans hg0.out)
     go_wp2_with (refine storeSy rfl (.tmp 2) (.tmp 26) rfl w.heap.size _ _ rfl rfl _ _ hg2.out rfl ?_)
     exact retSy rfl rfl hg2.out (Nat.le_refl _) (hW.trans (hb2.mono hW.size)) ⟨⟨.inl (LA_BA _), by decide, by decide⟩, by decide⟩
   · go_wp2_with fail
     refine (lispO _ W).mono ?_
     rintro e w2 ⟨rfl, hb2⟩
     have hg2 := qh9 ((hb2.block w.heap.size (by omega)).trans hg0.out)
     go_wp2_with (refine storeSy rfl (.tmp 2) (.tmp 33) rfl w.heap.size _ _ rfl rfl _ _ hg2.out rfl ?_)
     exact retSy rfl rfl hg2.out (Nat.le_refl _) (hW.trans (hb2.mono hW.size)) ⟨⟨.inl (LA_BA _), by decide, by decide⟩, by decide⟩
   · go_wp2_with fail
     refine (lispO _ W).mono ?_
     rintro e w2 ⟨rfl, hb2⟩
     have hg2 := qh9 ((hb2.block w.heap.size (by omega)).trans hg0.out)
     go_wp2_with (refine storeSy rfl (.tmp 2) (.tmp 40) rfl w.heap.size _ _ rfl rfl _ _ hg2.out rfl ?_)
     exact retSy rfl rfl hg2.out (Nat.le_refl _) (hW.trans (hb2.mono hW.size)) ⟨⟨.inl (LA_BA _), by decide, by decide⟩, by decide⟩
   · go_wp2_with fail
     refine (lispO _ W).mono ?_
     rintro e w2 ⟨rfl, hb2⟩
     have hg2 := qh9 ((hb2.block w.heap.size (by omega)).trans hg0.out)
     go_wp2_with (refine storeSy rfl (.tmp 2) (.tmp 41) rfl w.heap.size _ _ rfl rfl _ _ hg2.out rfl ?_)
     exact retSy rfl rfl hg2.out (Nat.le_refl _) (hW.trans (hb2.mono hW.size)) ⟨⟨.inl (LA_BA _), by decide, by decide⟩, by decide⟩
inductive Rw where
 | mk (k n : Int) (s : ByteArray) (l : List Rw)

def I64 (n : Int) : Prop := -9223372036854775808 ≤ n ∧ n ≤ 9223372036854775807

mutual
def RawAt (w : World) (S : Nat → Prop) : Rw → List Value → Prop
 | .mk k n s l, cs => ∃ A c, cs = [.int .i64 k, .int .i64 n, .string s, .slice A l.length c] ∧ I64 k ∧ I64 n ∧ l.length ≤ c ∧ c ≤ maxLen ∧
  (0 < l.length → ∃ b o, A = some ⟨b, o, none⟩ ∧ S b ∧ RawsAt w S b o l)
def RawsAt (w : World) (S : Nat → Prop) (b o : Nat) : List Rw → Prop
 | [] => True
 | r :: rs => (∃ cs, RawAt w S r cs ∧ ∀ j u, cs[j]? = some u → w.cell? ⟨b, o + j, none⟩ = some u) ∧ RawsAt w S b (o + 4) rs
end

mutual
theorem RawAt.keep {w w' : World} {S : Nat → Prop} (hk : ∀ p : Addr, S p.block → w'.cell? p = w.cell? p) : ∀ (r : Rw) (cs : List Value), RawAt w S r cs → RawAt w' S r cs
 | .mk k n s l, cs, h => by
  unfold RawAt at h ⊢
  obtain ⟨A, c, h1, h2, h3, h4, h5, h6⟩ := h
  refine ⟨A, c, h1, h2, h3, h4, h5, fun hl => ?_⟩
  obtain ⟨b, o, e, hb, hr⟩ := h6 hl
  exact ⟨b, o, e, hb, RawsAt.keep hk b o hb l hr⟩
theorem RawsAt.keep {w w' : World} {S : Nat → Prop} (hk : ∀ p : Addr, S p.block → w'.cell? p = w.cell? p) (b o : Nat) (hb : S b) : ∀ l : List Rw, RawsAt w S b o l → RawsAt w' S b o l
 | [], _ => by unfold RawsAt; trivial
 | r :: rs, h => by
  unfold RawsAt at h ⊢
  obtain ⟨⟨cs, h1, h2⟩, h3⟩ := h
  exact ⟨⟨cs, RawAt.keep hk r cs h1, fun j u hj => (hk ⟨b, o + j, none⟩ hb).trans (h2 j u hj)⟩, RawsAt.keep hk b (o + 4) hb rs h3⟩
end
theorem RawAt.below {w w' : World} {S : Nat → Prop} {B : Nat} {r : Rw} {cs : List Value} (h : RawAt w S r cs) (hS : ∀ b, S b → b < B) (hb : Below B w w') : RawAt w' S r cs := h.keep fun q hq => hb.cell (hS q.block hq)
theorem RawsAt.get {w : World} {S : Nat → Prop} {b : Nat} : ∀ {l : List Rw} {o i : Nat} (hi : i < l.length), RawsAt w S b o l → ∃ cs, RawAt w S l[i] cs ∧ ∀ j u, cs[j]? = some u → w.cell? ⟨b, o + i * 4 + j, none⟩ = some u
 | r :: rs, o, 0, hi, h => by
  unfold RawsAt at h
  obtain ⟨cs, h1, h2⟩ := h.1
  exact ⟨cs, h1, fun j u hj => by rw [Nat.zero_mul, Nat.add_zero]; exact h2 j u hj⟩
 | r :: rs, o, i + 1, hi, h => by
  unfold RawsAt at h
  obtain ⟨cs, h1, h2⟩ := RawsAt.get (l := rs) (o := o + 4) (i := i) (by simpa using hi) h.2
  exact ⟨cs, h1, fun j u hj => by rw [show o + (i + 1) * 4 + j = o + 4 + i * 4 + j from by omega]; exact h2 j u hj⟩

mutual
def leftV : Rw → Int → Int
 | .mk k n s l, m => if 12 < s.size ∨ 6 < l.length then -1 else leftL l (m - 1)
def leftL : List Rw → Int → Int
 | [], m => m
 | r :: rs, m => if 0 ≤ m then leftL rs (leftV r m) else m
end
mutual
theorem leftV_range : ∀ (r : Rw) (m : Int), 0 ≤ m → -1 ≤ leftV r m ∧ leftV r m ≤ m
 | .mk k n s l, m, h => by
  unfold leftV
  split
  · omega
  · have := leftL_range l (m - 1) (by omega); omega
theorem leftL_range : ∀ (l : List Rw) (m : Int), -1 ≤ m → -1 ≤ leftL l m ∧ leftL l m ≤ m
 | [], m, h => by unfold leftL; omega
 | r :: rs, m, h => by
  unfold leftL
  split
  · rename_i h0
    have h1 := leftV_range r m h0
    have h2 := leftL_range rs (leftV r m) h1.1
    omega
  · omega
end
theorem leftL_neg {l : List Rw} {m : Int} (h : m < 0) : leftL l m = m := by
 cases l with
 | nil => unfold leftL; rfl
 | cons r rs => unfold leftL; rw [if_neg (by omega)]
theorem leftL_drop {l : List Rw} {i : Nat} {m : Int} (hi : i < l.length) (hm : 0 ≤ m) : leftL (l.drop i) m = leftL (l.drop (i + 1)) (leftV l[i] m) := by
 rw [List.drop_eq_getElem_cons hi]
 conv => lhs; unfold leftL
 rw [if_pos hm]
mutual
theorem Rw.ind {P : Rw → Prop} (h : ∀ k n s l, (∀ r ∈ l, P r) → P (.mk k n s l)) : ∀ r, P r
 | .mk k n s l => h k n s l (Rw.inds h l)
theorem Rw.inds {P : Rw → Prop} (h : ∀ k n s l, (∀ r ∈ l, P r) → P (.mk k n s l)) : ∀ l : List Rw, ∀ r ∈ l, P r
 | [] => fun r hr => by simp at hr
 | x :: xs => fun r hr => by
  rcases List.mem_cons.1 hr with e | e
  · rw [e]; exact Rw.ind h x
  · exact Rw.inds h xs r e
end

def RetI (w : World) (n : Int) (e : Ending) (w' : World) : Prop := e = .returned (.int .i64 n) ∧ Below w.heap.size w w'
def LeftW (W wr : World) (l : List Rw) (i : Nat) (q r : Int) : Prop := leftL (l.drop i) q = r ∧ Below W.heap.size W wr

theorem leftCore (k n : Int) (s : ByteArray) (l : List Rw) (A : Option Addr) (c : Nat) (m : Int) (w : World) (S : Nat → Prop) (hS : In S w) (hc : l.length ≤ c) (hm : 0 ≤ m) (hm' : m ≤ 1000)
 (hA : 0 < l.length → ∃ b o, A = some ⟨b, o, none⟩ ∧ S b ∧ RawsAt w S b o l)
 (ih : ∀ r ∈ l, ∀ (cs : List Value) (m : Int) (w : World), In S w → RawAt w S r cs → 0 ≤ m → m ≤ 1000 → Calls Tryz.prog 43 #[.agg cs.toArray, .int .i64 m] w (RetI w (leftV r m))) :
 Calls Tryz.prog 43 #[.agg #[.int .i64 k, .int .i64 n, .string s, .slice A l.length c], .int .i64 m] w (RetI w (leftV (.mk k n s l) m)) := by
 have HI := qh9 ih
 clear ih
 have HA := qh9 hA
 clear hA
 obtain ⟨L, hL⟩ : ∃ L, l.length = L := ⟨_, rfl⟩
 rw [hL] at hc HA ⊢
 have HL := qh9 hL
 by_cases hbig : 12 < s.size ∨ 6 < L
 · have hr : leftV (.mk k n s l) m = -1 := by unfold leftV; rw [hL, if_pos hbig]
   rw [hr]
   clear hr hL
   have hb0 : Below w.heap.size w (w.alloc (.cells #[.int .i64 k, .int .i64 n, .string s, .slice A L c] 35)) := Below.alloc (Below.refl _ _) (Nat.le_refl _) _
   by_cases h1 : 12 < s.size
   · go_enter Tryz.func43, Tryz.ntmps43
     go_wp2_with fail
     all_goals go_ret
     all_goals exact ⟨rfl, hb0⟩
   · have h2 : 6 < L := by omega
     clear hbig
     go_enter Tryz.func43, Tryz.ntmps43
     go_wp2_with fail
     all_goals go_ret
     all_goals exact ⟨rfl, hb0⟩
 · have h1 : s.size ≤ 12 := by omega
   have h2 : L ≤ 6 := by omega
   have hr : leftV (.mk k n s l) m = leftL l (m - 1) := by unfold leftV; rw [hL, if_neg hbig]
   rw [hr]
   clear hr hL hbig
   go_enter Tryz.func43, Tryz.ntmps43
   go_wp2_with fail
   have c3 := qh9 (show (w.alloc (.cells #[.int .i64 k, .int .i64 n, .string s, .slice A L c] 35)).cell? ⟨w.heap.size, 3, none⟩ = some (.slice A L c) from by
    rw [cell_of_row _ _ _ _ _ _ (heap_alloc_new w _)]; rfl)
   have hW : Below w.heap.size w (w.alloc (.cells #[.int .i64 k, .int .i64 n, .string s, .slice A L c] 35)) := Below.alloc (Below.refl _ _) (Nat.le_refl _) _
   have hSz : (w.alloc (.cells #[.int .i64 k, .int .i64 n, .string s, .slice A L c] 35)).heap.size = w.heap.size + 1 := by simp
   generalize w.alloc (.cells #[.int .i64 k, .int .i64 n, .string s, .slice A L c] 35) = W at c3 hW hSz ⊢
   have hS1 : w.heap.size + 1 ≤ W.heap.size := by omega
   clear hSz
   go_loopw [1, 5] (fun u v wr => ∃ (i : Nat) (q : Int), i ≤ L ∧ v = .int .i64 i ∧ u = .int .i64 q ∧ -1 ≤ q ∧ q ≤ 1000 ∧ Hid (LeftW W wr l i q (leftL l (m - 1)))) (fun _ v _ => L - (intOf v).toNat)
   case atStart => exact ⟨0, m - 1, Nat.zero_le _, rfl, rfl, by omega, by omega, ⟨rfl, Below.refl _ _⟩⟩
   case round =>
    obtain ⟨i, q, hi, rfl, rfl, hq, hq', hE⟩ := hrel
    obtain ⟨wo, rfl⟩ : ∃ wo : World, wo = wr := ⟨_, rfl⟩
    obtain ⟨hv, hb1⟩ := hE.out
    clear hE
    have HV := qh9 hv
    clear hv
    have d3 : wo.cell? ⟨w.heap.size, 3, none⟩ = some (.slice A L c) := (hb1.cell (p := ⟨w.heap.size, 3, none⟩) (by show w.heap.size < _; omega)).trans c3.out
    have hbw : Below w.heap.size w wo := hW.trans (hb1.mono hW.size)
    by_cases hiL : i < L
    · by_cases hq0 : 0 ≤ q
      · obtain ⟨b, o, rfl, hb, hrs⟩ := HA.out (by omega)
        have hil : i < l.length := by rw [HL.out]; exact hiL
        obtain ⟨cs, hcs, hcell⟩ := hrs.get hil
        have hcs' := hcs.below hS hbw
        have ha0 : b < w.heap.size := hS b hb
        have step := qh9 (leftL_drop hil hq0)
        have rng := leftV_range l[i] q hq0
        obtain ⟨z0, z1, z2, z3, rfl⟩ : ∃ z0 z1 z2 z3, cs = [z0, z1, z2, z3] := by
         generalize l[i] = r at hcs
         cases r with
         | mk k n s l => unfold RawAt at hcs; obtain ⟨A, c, e, _⟩ := hcs; exact ⟨_, _, _, _, e⟩
        have l0 := (hbw.cell (p := ⟨b, o + i * 4 + 0, none⟩) ha0).trans (hcell 0 z0 rfl)
        have l1 := (hbw.cell (p := ⟨b, o + i * 4 + 1, none⟩) ha0).trans (hcell 1 z1 rfl)
        have l2 := (hbw.cell (p := ⟨b, o + i * 4 + 2, none⟩) ha0).trans (hcell 2 z2 rfl)
        have l3 := (hbw.cell (p := ⟨b, o + i * 4 + 3, none⟩) ha0).trans (hcell 3 z3 rfl)
        rw [Nat.add_zero] at l0
        have call := qh9 (HI.out l[i] (List.getElem_mem hil) [z0, z1, z2, z3] q wo (hS.later hbw.size) hcs' hq0 hq')
        clear hcell hcs hcs' hrs
        go_wp2_with fail
        refine call.out.mono ?_
        rintro e w3 ⟨rfl, hb3⟩
        have hbe := qh9 (hb1.trans (hb3.mono hb1.size))
        clear l0 l1 l2 l3 d3 hb1 hb3 hbw call
        have hst := qh9 (step.out.symm.trans HV.out)
        generalize leftV l[i] q = q' at rng hst ⊢
        go_wp2
        go_roundw
        case rel => exact ⟨i + 1, q', by omega, by go_num, rfl, by omega, by omega, ⟨hst.out, hbe.out⟩⟩
        case measure => simp [intOf]; omega
      · have hr : Hid (q = leftL l (m - 1)) := by show _ = _; rw [← HV.out, leftL_neg (by omega)]
        have hbx := qh9 hbw
        clear hb1 hbw
        go_wp2
        go_ret
        exact ⟨ret_int hr.out, hbx.out⟩
    · have hiL : i = L := by omega
      have hr : Hid (q = leftL l (m - 1)) := by
       show _ = _
       rw [← HV.out, List.drop_eq_nil_of_le (by rw [HL.out]; omega)]
       unfold leftL
       rfl
      have hbx := qh9 hbw
      have hn : ¬ i < L := by omega
      clear hb1 hbw hiL
      go_wp2
      go_ret
      exact ⟨ret_int hr.out, hbx.out⟩
theorem leftO : ∀ (r : Rw) (cs : List Value) (m : Int) (w : World) (S : Nat → Prop), In S w → RawAt w S r cs → 0 ≤ m → m ≤ 1000 →
 Calls Tryz.prog 43 #[.agg cs.toArray, .int .i64 m] w (RetI w (leftV r m)) := by
 intro r
 induction r using Rw.ind with
 | h k n s l ih =>
  intro cs m w S hS h hm hm'
  unfold RawAt at h
  obtain ⟨A, c, rfl, hk, hn, hc, hc', hA⟩ := h
  exact leftCore k n s l A c m w S hS hc hm hm' hA (fun r hr cs m w hS h hm hm' => ih r hr cs m w S hS h hm hm')

def few (r : Rw) (m : Int) : Bool := decide (0 ≤ leftV r m)
theorem fewO (r : Rw) (cs : List Value) (m : Int) (w : World) (S : Nat → Prop) (hS : In S w) (h : RawAt w S r cs) (hm : 0 ≤ m) (hm' : m ≤ 1000) :
 Calls Tryz.prog 16 #[.agg cs.toArray, .int .i64 m] w (fun e w' => e = .returned (.bool (few r m)) ∧ Below w.heap.size w w') := by
 cases r with
 | mk k n s l =>
  have h' := h
  unfold RawAt at h
  obtain ⟨A, c, rfl, _⟩ := h
  have hb0 : Below w.heap.size w (w.alloc (.cells #[.int .i64 k, .int .i64 n, .string s, .slice A l.length c] 35)) := Below.alloc (Below.refl _ _) (Nat.le_refl _) _
  have call := qh9 (leftO _ _ m _ S (hS.later hb0.size) (h'.below hS hb0) hm hm')
  clear h'
  go_enter Tryz.func16, Tryz.ntmps16
  go_wp2_with fail
  refine call.out.mono ?_
  rintro e w3 ⟨rfl, hb3⟩
  have hbx := qh9 (hb0.trans (hb3.mono hb0.size))
  clear hb3 hb0 call
  go_wp2
  go_ret
  exact ⟨rfl, hbx.out⟩
def partV : Rw → Nat → Rw
 | .mk _ _ _ l, i => l.getD i (.mk 0 0 ⟨#[]⟩ [])
def RetR (w : World) (S : Nat → Prop) (r : Rw) (e : Ending) (w' : World) : Prop := ∃ cs, e = .returned (.agg cs.toArray) ∧ RawAt w' S r cs ∧ Below w.heap.size w w'
theorem raw_none (w : World) (S : Nat → Prop) : RawAt w S (.mk 0 0 ⟨#[]⟩ []) [.int .i64 0, .int .i64 0, .string ⟨#[]⟩, .slice none 0 0] := by
 unfold RawAt
 exact ⟨none, 0, rfl, by unfold I64; omega, by unfold I64; omega, Nat.le_refl _, Nat.zero_le _, fun h => by simp at h⟩
theorem retR {fn : Func} {q : Tmp} {w0 : World} {S : Nat → Prop} {tmps : Array Value} {w : World} {g : Nat} {r : Rw} {z0 z1 z2 z3 : Value} {t : TypeId} {fr : Nat × Nat}
 (h : fn.results = #[.cell q 35]) (hq : tmps.getD q undef = .pointer (some ⟨g, 0, none⟩)) (hg : w.heap[g]? = some (.cells #[z0, z1, z2, z3] t fr))
 (hr : RawAt w S r [z0, z1, z2, z3]) (hb : Below w0.heap.size w0 w) : bodyPost Tryz.prog fn (RetR w0 S r) Exit.ret ⟨tmps, []⟩ w :=
 bodyPost_ret (results_cell_row h tmps _ g t _ fr _ hq hg Tryz.underlying35 rfl (by kernel_rfl)) rfl ⟨_, rfl, hr, hb⟩

theorem partO (r : Rw) (cs : List Value) (i : Nat) (w : World) (S : Nat → Prop) (hS : In S w) (h : RawAt w S r cs) (hi : i ≤ 10) :
 Calls Tryz.prog 48 #[.agg cs.toArray, .int .i64 i] w (RetR w S (partV r i)) := by
 cases r with
 | mk k n s l =>
  unfold RawAt at h
  obtain ⟨A, c, rfl, hk, hn, hc, hc', hA⟩ := h
  obtain ⟨L, hL⟩ : ∃ L, l.length = L := ⟨_, rfl⟩
  have HL := qh9 hL
  rw [hL] at hc hA ⊢
  clear hL
  have HA := qh9 hA
  clear hA
  by_cases hiL : i < L
  · obtain ⟨b, o, rfl, hb, hrs⟩ := HA.out (by omega)
    have hil : i < l.length := by rw [HL.out]; exact hiL
    obtain ⟨cs, hcs, hcell⟩ := hrs.get hil
    have hp : partV (.mk k n s l) i = l[i] := by show l.getD i _ = _; rw [List.getD_eq_getElem?_getD, List.getElem?_eq_getElem hil]; rfl
    rw [hp]
    clear hp
    have hbl := hS b hb
    have HC := qh9 hcs
    clear hrs
    generalize l[i] = r at hcs HC ⊢
    cases r with
    | mk k' n' s' l' =>
     unfold RawAt at hcs
     obtain ⟨A', c', rfl, _⟩ := hcs
     have l0 := hcell 0 _ rfl
     have l1 := hcell 1 _ rfl
     have l2 := hcell 2 _ rfl
     have l3 := hcell 3 _ rfl
     rw [Nat.add_zero] at l0
     clear hcell
     go_enter Tryz.func48, Tryz.ntmps48
     go_wp2_with fail
     have hbb : Below w.heap.size w ((w.alloc (.cells #[.int .i64 k, .int .i64 n, .string s, .slice (some ⟨b, o, none⟩) L c] 35)).alloc (.cells #[.int .i64 k', .int .i64 n', .string s', .slice A' l'.length c'] 35)) := Below.alloc (Below.alloc (Below.refl _ _) (Nat.le_refl _) _) (by simp) _
     exact retR rfl rfl (heap_alloc2_new w _ _) (HC.out.below hS hbb) hbb
  · have hp : partV (.mk k n s l) i = .mk 0 0 ⟨#[]⟩ [] := by
     show l.getD i _ = _
     rw [List.getD_eq_getElem?_getD, List.getElem?_eq_none (by rw [HL.out]; omega)]
     rfl
    rw [hp]
    clear hp
    go_enter Tryz.func48, Tryz.ntmps48
    go_wp2_with fail
    have hbb : Below w.heap.size w ((w.alloc (.cells #[.int .i64 k, .int .i64 n, .string s, .slice A L c] 35)).alloc (.cells #[.int .i64 0, .int .i64 0, .string ⟨#[]⟩, .slice none 0 0] 35)) := Below.alloc (Below.alloc (Below.refl _ _) (Nat.le_refl _) _) (by simp) _
    exact retR rfl rfl (heap_alloc2_new w _ _) (raw_none _ S) hbb
end Go.Proofs.YtlmnjelideegnaaGreatDoor
