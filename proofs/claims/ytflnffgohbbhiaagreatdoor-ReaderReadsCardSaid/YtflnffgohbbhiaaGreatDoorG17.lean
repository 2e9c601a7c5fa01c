/- The reference's Equal: two conses. -/
import Derived.Test.YtflnffgohbbhiaaGreatDoorG11
import Derived.StillTailTactics
namespace Go.Proofs.YtflnffgohbbhiaaGreatDoor
open Go Go.RowKit
set_option linter.unusedVariables false
def EqW (w W wr : World) (r0 r1 : Bool) (k : Nat) : Prop := (0 < k → r0 = true) ∧ (1 < k → r1 = true) ∧ Below W.heap.size W wr

def EqPost (w : World) (r : Bool) (e : Ending) (w' : World) : Prop := e = .returned (.bool r) ∧ Below w.heap.size w w'

set_option maxHeartbeats 4000000 in
set_option maxRecDepth 100000 in
theorem equalCC (b o c b' o' c' : Nat) (w : World) (x0 x1 x2 x3 x4 x5 x6 y0 y1 y2 y3 y4 y5 y6 z0 z1 z2 z3 z4 z5 z6 t0 t1 t2 t3 t4 t5 t6 : Value) (r0 r1 : Bool)
 (hb : b < w.heap.size) (hb' : b' < w.heap.size) (hc : 2 ≤ c) (hc' : 2 ≤ c')
 (hx : ∀ j u, #[x0, x1, x2, x3, x4, x5, x6, y0, y1, y2, y3, y4, y5, y6][j]? = some u → w.cell? ⟨b, o + j, none⟩ = some u)
 (hz : ∀ j u, #[z0, z1, z2, z3, z4, z5, z6, t0, t1, t2, t3, t4, t5, t6][j]? = some u → w.cell? ⟨b', o' + j, none⟩ = some u)
 (ih0 : ∀ w', Below w.heap.size w w' → Calls Tryz.prog 21 #[.agg #[x0, x1, x2, x3, x4, x5, x6], .agg #[z0, z1, z2, z3, z4, z5, z6]] w' (EqPost w' r0))
 (ih1 : ∀ w', Below w.heap.size w w' → Calls Tryz.prog 21 #[.agg #[y0, y1, y2, y3, y4, y5, y6], .agg #[t0, t1, t2, t3, t4, t5, t6]] w' (EqPost w' r1)) :
 Calls Tryz.prog 21 #[.agg #[.int .i64 4, e0, e0, e0, e0, e0, .slice (some ⟨b, o, none⟩) 2 c], .agg #[.int .i64 4, e0, e0, e0, e0, e0, .slice (some ⟨b', o', none⟩) 2 c']] w (EqPost w (r0 && r1)) := by
 unfold e0
 have hX := Lib.hid hx
 have hZ := Lib.hid hz
 have I0 := Lib.hid ih0
 have I1 := Lib.hid ih1
 clear hx hz ih0 ih1
 go_enter Tryz.func21, Tryz.ntmps21
 go_wp2_with fail
 have c2 := Lib.hid (show ((w.alloc (Obj.cells #[Value.int IntKind.i64 4, Value.string { data := #[] }, Value.string { data := #[] }, Value.string { data := #[] }, Value.string { data := #[] }, Value.string { data := #[] }, Value.slice (some { block := b, off := o }) 2 c] 47)).alloc (Obj.cells #[Value.int IntKind.i64 4, Value.string { data := #[] }, Value.string { data := #[] }, Value.string { data := #[] }, Value.string { data := #[] }, Value.string { data := #[] }, Value.slice (some { block := b', off := o' }) 2 c'] 47)).cell? ⟨w.heap.size, 6, none⟩ = some (Value.slice (some { block := b, off := o }) 2 c) from by
  rw [cell_of_row _ _ _ _ _ _ (heap_alloc2_old w _ _)]; rfl)
 have c3 := Lib.hid (show ((w.alloc (Obj.cells #[Value.int IntKind.i64 4, Value.string { data := #[] }, Value.string { data := #[] }, Value.string { data := #[] }, Value.string { data := #[] }, Value.string { data := #[] }, Value.slice (some { block := b, off := o }) 2 c] 47)).alloc (Obj.cells #[Value.int IntKind.i64 4, Value.string { data := #[] }, Value.string { data := #[] }, Value.string { data := #[] }, Value.string { data := #[] }, Value.string { data := #[] }, Value.slice (some { block := b', off := o' }) 2 c'] 47)).cell? ⟨w.heap.size + 1, 6, none⟩ = some (Value.slice (some { block := b', off := o' }) 2 c') from by
  rw [cell_of_row _ _ _ _ _ _ (heap_alloc2_new w _ _)]; rfl)
 have hW := Below.alloc (Below.alloc (Below.refl w.heap.size w) (Nat.le_refl _) (Obj.cells #[Value.int IntKind.i64 4, Value.string { data := #[] }, Value.string { data := #[] }, Value.string { data := #[] }, Value.string { data := #[] }, Value.string { data := #[] }, Value.slice (some { block := b, off := o }) 2 c] 47)) (by simp) (Obj.cells #[Value.int IntKind.i64 4, Value.string { data := #[] }, Value.string { data := #[] }, Value.string { data := #[] }, Value.string { data := #[] }, Value.string { data := #[] }, Value.slice (some { block := b', off := o' }) 2 c'] 47)
 have hS : ((w.alloc (Obj.cells #[Value.int IntKind.i64 4, Value.string { data := #[] }, Value.string { data := #[] }, Value.string { data := #[] }, Value.string { data := #[] }, Value.string { data := #[] }, Value.slice (some { block := b, off := o }) 2 c] 47)).alloc (Obj.cells #[Value.int IntKind.i64 4, Value.string { data := #[] }, Value.string { data := #[] }, Value.string { data := #[] }, Value.string { data := #[] }, Value.string { data := #[] }, Value.slice (some { block := b', off := o' }) 2 c'] 47)).heap.size = w.heap.size + 2 := by simp
 generalize (w.alloc (Obj.cells #[Value.int IntKind.i64 4, Value.string { data := #[] }, Value.string { data := #[] }, Value.string { data := #[] }, Value.string { data := #[] }, Value.string { data := #[] }, Value.slice (some { block := b, off := o }) 2 c] 47)).alloc (Obj.cells #[Value.int IntKind.i64 4, Value.string { data := #[] }, Value.string { data := #[] }, Value.string { data := #[] }, Value.string { data := #[] }, Value.string { data := #[] }, Value.slice (some { block := b', off := o' }) 2 c'] 47) = W at c2 c3 hW hS ⊢
 have hS1 : w.heap.size + 2 ≤ W.heap.size := by omega
 clear hS
 go_loopw [5] (fun v wr => ∃ k : Nat, k ≤ 2 ∧ v = .int .i64 k ∧ Hid (EqW w W wr r0 r1 k)) (fun v _ => 2 - (intOf v).toNat)
 case atStart => exact ⟨0, by omega, rfl, ⟨fun h => by omega, fun h => by omega, Below.refl _ _⟩⟩
 case round =>
  obtain ⟨k, hk, rfl, hE⟩ := hrel
  obtain ⟨wo, rfl⟩ : ∃ wo : World, wo = wr := ⟨_, rfl⟩
  obtain ⟨g0, g1, hb1⟩ := hE.out
  clear hE
  have G0 := Lib.hid g0
  have G1 := Lib.hid g1
  clear g0 g1
  have d2 : wo.cell? ⟨w.heap.size, 6, none⟩ = some (Value.slice (some { block := b, off := o }) 2 c) := (hb1.cell (p := ⟨w.heap.size, 6, none⟩) (by show w.heap.size < _; omega)).trans c2.out
  have d3 : wo.cell? ⟨w.heap.size + 1, 6, none⟩ = some (Value.slice (some { block := b', off := o' }) 2 c') := (hb1.cell (p := ⟨w.heap.size + 1, 6, none⟩) (by show w.heap.size + 1 < _; omega)).trans c3.out
  have hbw : Below w.heap.size w wo := hW.trans (hb1.mono hW.size)
  have lx : ∀ j u, #[x0, x1, x2, x3, x4, x5, x6, y0, y1, y2, y3, y4, y5, y6][j]? = some u → wo.cell? ⟨b, o + j, none⟩ = some u := fun j u h => (hbw.cell (p := ⟨b, o + j, none⟩) hb).trans (hX.out j u h)
  have lz : ∀ j u, #[z0, z1, z2, z3, z4, z5, z6, t0, t1, t2, t3, t4, t5, t6][j]? = some u → wo.cell? ⟨b', o' + j, none⟩ = some u := fun j u h => (hbw.cell (p := ⟨b', o' + j, none⟩) hb').trans (hZ.out j u h)
  by_cases hk0 : k = 0
  · subst hk0
    have l0 := lx 0 _ rfl
    have l1 := lx 1 _ rfl
    have l2 := lx 2 _ rfl
    have l3 := lx 3 _ rfl
    have l4 := lx 4 _ rfl
    have l5 := lx 5 _ rfl
    have l6 := lx 6 _ rfl
    have m0 := lz 0 _ rfl
    have m1 := lz 1 _ rfl
    have m2 := lz 2 _ rfl
    have m3 := lz 3 _ rfl
    have m4 := lz 4 _ rfl
    have m5 := lz 5 _ rfl
    have m6 := lz 6 _ rfl
    rw [Nat.add_zero] at l0 m0
    clear lx lz
    go_wp2_with fail
    go_still_tail 10, (by kernel_rfl)
    change wpList _ _ _ _ _ wo.drew
    have hbd : Below w.heap.size w wo.drew := hbw.drew
    have hbd2 : Below W.heap.size W wo.drew := hb1.drew
    generalize wo.drew = wd at hbd hbd2 ⊢
    clear l0 l1 l2 l3 l4 l5 l6 m0 m1 m2 m3 m4 m5 m6 d2 d3 hbw hb1
    go_wp2_with fail
    refine (I0.out wd hbd).mono ?_
    rintro e w3 ⟨rfl, hb3⟩
    have hbe := Lib.hid (hbd.trans (hb3.mono hbd.size))
    have hbe2 := Lib.hid (hbd2.trans (hb3.mono hbd2.size))
    clear hb3 hbd hbd2
    cases r0
    · go_wp2
      go_ret
      exact ⟨by simp, hbe.out⟩
    · go_wp2
      go_roundw
      case rel => exact ⟨0 + 1, by omega, rfl, ⟨fun _ => rfl, fun h => by omega, hbe2.out⟩⟩
      case measure => simp [intOf]
  · by_cases hk1 : k = 1
    · subst hk1
      have q0 : r0 = true := G0.out (by omega)
      subst q0
      have l0 := lx 7 _ rfl
      have l1 := lx 8 _ rfl
      have l2 := lx 9 _ rfl
      have l3 := lx 10 _ rfl
      have l4 := lx 11 _ rfl
      have l5 := lx 12 _ rfl
      have l6 := lx 13 _ rfl
      have m0 := lz 7 _ rfl
      have m1 := lz 8 _ rfl
      have m2 := lz 9 _ rfl
      have m3 := lz 10 _ rfl
      have m4 := lz 11 _ rfl
      have m5 := lz 12 _ rfl
      have m6 := lz 13 _ rfl
      clear lx lz
      go_wp2_with fail
      go_still_tail 10, (by kernel_rfl)
      change wpList _ _ _ _ _ wo.drew
      have hbd : Below w.heap.size w wo.drew := hbw.drew
      have hbd2 : Below W.heap.size W wo.drew := hb1.drew
      generalize wo.drew = wd at hbd hbd2 ⊢
      clear l0 l1 l2 l3 l4 l5 l6 m0 m1 m2 m3 m4 m5 m6 d2 d3 hbw hb1
      go_wp2_with fail
      refine (I1.out wd hbd).mono ?_
      rintro e w3 ⟨rfl, hb3⟩
      have hbe := Lib.hid (hbd.trans (hb3.mono hbd.size))
      have hbe2 := Lib.hid (hbd2.trans (hb3.mono hbd2.size))
      clear hb3 hbd hbd2
      cases r1
      · go_wp2
        go_ret
        exact ⟨by simp, hbe.out⟩
      · go_wp2
        go_roundw
        case rel => exact ⟨1 + 1, by omega, rfl, ⟨fun _ => rfl, fun _ => rfl, hbe2.out⟩⟩
        case measure => simp [intOf]
    · have hk2 : k = 2 := by omega
      subst hk2
      have q0 : r0 = true := G0.out (by omega)
      have q1 : r1 = true := G1.out (by omega)
      subst q0 q1
      have hbx := Lib.hid hbw
      clear lx lz hb1 hbw
      go_wp2
      go_ret
      exact ⟨rfl, hbx.out⟩
def eqS (s1 s2 s3 s4 s5 t1 t2 t3 t4 t5 : ByteArray) : Bool := s1.toList == t1.toList && s2.toList == t2.toList && (s3.toList == t3.toList && s4.toList == t4.toList) && s5.toList == t5.toList

set_option maxHeartbeats 4000000 in
set_option maxRecDepth 100000 in
theorem eqKind (k k' : Int) (hk : k ≠ k') (x1 x2 x3 x4 x5 x6 y1 y2 y3 y4 y5 y6 : Value) (w : World) :
 Calls Tryz.prog 21 #[.agg #[.int .i64 k, x1, x2, x3, x4, x5, x6], .agg #[.int .i64 k', y1, y2, y3, y4, y5, y6]] w (EqPost w false) := by
 have h1 : (k == k') = false := by rw [beq_eq_false_iff_ne]; exact hk
 have h2 : (k != k') = true := by rw [bne_iff_ne]; exact hk
 clear hk
 go_enter Tryz.func21, Tryz.ntmps21
 go_wp2_with fail
 all_goals go_ret
 all_goals exact ⟨rfl, Below.alloc (Below.alloc (Below.refl _ _) (Nat.le_refl _) _) (by simp) _⟩

set_option maxHeartbeats 4000000 in
set_option maxRecDepth 100000 in
theorem eqFlat (k : Int) (s1 s2 s3 s4 s5 t1 t2 t3 t4 t5 : ByteArray) (w : World) :
 Calls Tryz.prog 21 #[.agg #[.int .i64 k, .string s1, .string s2, .string s3, .string s4, .string s5, .slice none 0 0], .agg #[.int .i64 k, .string t1, .string t2, .string t3, .string t4, .string t5, .slice none 0 0]] w (EqPost w (eqS s1 s2 s3 s4 s5 t1 t2 t3 t4 t5)) := by
 cases h1 : (s1.toList == t1.toList) with
 | false =>
  have hr : eqS s1 s2 s3 s4 s5 t1 t2 t3 t4 t5 = false := by unfold eqS; rw [h1]; simp
  rw [hr]
  clear hr
  go_enter Tryz.func21, Tryz.ntmps21
  go_wp2_with fail
  all_goals go_ret
  all_goals exact ⟨rfl, Below.alloc (Below.alloc (Below.refl _ _) (Nat.le_refl _) _) (by simp) _⟩
 | true =>
  cases h2 : (s2.toList == t2.toList) with
  | false =>
   have hr : eqS s1 s2 s3 s4 s5 t1 t2 t3 t4 t5 = false := by unfold eqS; rw [h1, h2]; simp
   rw [hr]
   clear hr
   go_enter Tryz.func21, Tryz.ntmps21
   go_wp2_with fail
   all_goals go_ret
   all_goals exact ⟨rfl, Below.alloc (Below.alloc (Below.refl _ _) (Nat.le_refl _) _) (by simp) _⟩
  | true =>
   cases h3 : (s3.toList == t3.toList) with
   | false =>
    have hr : eqS s1 s2 s3 s4 s5 t1 t2 t3 t4 t5 = false := by unfold eqS; rw [h1, h2, h3]; simp
    rw [hr]
    clear hr
    go_enter Tryz.func21, Tryz.ntmps21
    go_wp2_with fail
    all_goals go_ret
    all_goals exact ⟨rfl, Below.alloc (Below.alloc (Below.refl _ _) (Nat.le_refl _) _) (by simp) _⟩
   | true =>
    cases h4 : (s4.toList == t4.toList) with
    | false =>
     have hr : eqS s1 s2 s3 s4 s5 t1 t2 t3 t4 t5 = false := by unfold eqS; rw [h1, h2, h3, h4]; simp
     rw [hr]
     clear hr
     go_enter Tryz.func21, Tryz.ntmps21
     go_wp2_with fail
     all_goals go_ret
     all_goals exact ⟨rfl, Below.alloc (Below.alloc (Below.refl _ _) (Nat.le_refl _) _) (by simp) _⟩
    | true =>
     cases h5 : (s5.toList == t5.toList) with
     | false =>
      have hr : eqS s1 s2 s3 s4 s5 t1 t2 t3 t4 t5 = false := by unfold eqS; rw [h1, h2, h3, h4, h5]; simp
      rw [hr]
      clear hr
      go_enter Tryz.func21, Tryz.ntmps21
      go_wp2_with fail
      all_goals go_ret
      all_goals exact ⟨rfl, Below.alloc (Below.alloc (Below.refl _ _) (Nat.le_refl _) _) (by simp) _⟩
     | true =>
      have hr : eqS s1 s2 s3 s4 s5 t1 t2 t3 t4 t5 = true := by unfold eqS; rw [h1, h2, h3, h4, h5]; rfl
      rw [hr]
      clear hr
      go_enter Tryz.func21, Tryz.ntmps21
      go_wp2_with fail
      refine wp_loop_once ?_
      go_wp2_with fail
      all_goals go_ret
      all_goals exact ⟨rfl, Below.alloc (Below.alloc (Below.refl _ _) (Nat.le_refl _) _) (by simp) _⟩
theorem beq_BA (l m : List UInt8) : ((BA l).toList == (BA m).toList) = decide (l = m) := by
 rw [Lib.toList_data, Lib.toList_data]
 by_cases h : l = m
 · subst h; simp
 · rw [decide_eq_false h, beq_eq_false_iff_ne]
   intro e
   apply h
   unfold BA at e
   simpa using e

theorem equalO : ∀ (a b : Ob) (pa pb : Value) (w : World) (S : Nat → Prop), In S w → Pair w S a pa → Pair w S b pb →
 Calls Tryz.prog 21 #[vO a pa, vO b pb] w (EqPost w (decide (a = b))) := by
 intro a
 induction a with
 | num q =>
  intro b pa pb w S hS ha hb
  have e : pa = .slice none 0 0 := ha
  subst e
  cases b with
  | num q' =>
   have e : pb = .slice none 0 0 := hb
   subst e
   have h := eqFlat 1 (nt q) (dt q) ⟨#[]⟩ ⟨#[]⟩ ⟨#[]⟩ (nt q') (dt q') ⟨#[]⟩ ⟨#[]⟩ ⟨#[]⟩ w
   have hr : eqS (nt q) (dt q) ⟨#[]⟩ ⟨#[]⟩ ⟨#[]⟩ (nt q') (dt q') ⟨#[]⟩ ⟨#[]⟩ ⟨#[]⟩ = decide (Ob.num q = Ob.num q') := by
    unfold eqS
    rw [q_beq]
    simp
   rw [hr] at h
   exact h
  | str s => rw [decide_eq_false (by simp)]; exact eqKind 1 3 (by decide) _ _ _ _ _ _ _ _ _ _ _ _ w
  | sym p n => rw [decide_eq_false (by simp)]; exact eqKind 1 2 (by decide) _ _ _ _ _ _ _ _ _ _ _ _ w
  | cons x y => rw [decide_eq_false (by simp)]; exact eqKind 1 4 (by decide) _ _ _ _ _ _ _ _ _ _ _ _ w
 | str s =>
  intro b pa pb w S hS ha hb
  have e : pa = .slice none 0 0 := ha
  subst e
  cases b with
  | num q' => rw [decide_eq_false (by simp)]; exact eqKind 3 1 (by decide) _ _ _ _ _ _ _ _ _ _ _ _ w
  | str s' =>
   have e : pb = .slice none 0 0 := hb
   subst e
   have h := eqFlat 3 ⟨#[]⟩ ⟨#[]⟩ ⟨#[]⟩ ⟨#[]⟩ (BA s) ⟨#[]⟩ ⟨#[]⟩ ⟨#[]⟩ ⟨#[]⟩ (BA s') w
   have hr : eqS ⟨#[]⟩ ⟨#[]⟩ ⟨#[]⟩ ⟨#[]⟩ (BA s) ⟨#[]⟩ ⟨#[]⟩ ⟨#[]⟩ ⟨#[]⟩ (BA s') = decide (Ob.str s = Ob.str s') := by
    unfold eqS
    rw [beq_BA]
    simp
   rw [hr] at h
   exact h
  | sym p n => rw [decide_eq_false (by simp)]; exact eqKind 3 2 (by decide) _ _ _ _ _ _ _ _ _ _ _ _ w
  | cons x y => rw [decide_eq_false (by simp)]; exact eqKind 3 4 (by decide) _ _ _ _ _ _ _ _ _ _ _ _ w
 | sym p n =>
  intro b pa pb w S hS ha hb
  have e : pa = .slice none 0 0 := ha
  subst e
  cases b with
  | num q' => rw [decide_eq_false (by simp)]; exact eqKind 2 1 (by decide) _ _ _ _ _ _ _ _ _ _ _ _ w
  | str s' => rw [decide_eq_false (by simp)]; exact eqKind 2 3 (by decide) _ _ _ _ _ _ _ _ _ _ _ _ w
  | sym p' n' =>
   have e : pb = .slice none 0 0 := hb
   subst e
   have h := eqFlat 2 ⟨#[]⟩ ⟨#[]⟩ (BA p) (BA n) ⟨#[]⟩ ⟨#[]⟩ ⟨#[]⟩ (BA p') (BA n') ⟨#[]⟩ w
   have hr : eqS ⟨#[]⟩ ⟨#[]⟩ (BA p) (BA n) ⟨#[]⟩ ⟨#[]⟩ ⟨#[]⟩ (BA p') (BA n') ⟨#[]⟩ = decide (Ob.sym p n = Ob.sym p' n') := by
    unfold eqS
    rw [beq_BA, beq_BA]
    simp
   rw [hr] at h
   exact h
  | cons x y => rw [decide_eq_false (by simp)]; exact eqKind 2 4 (by decide) _ _ _ _ _ _ _ _ _ _ _ _ w
 | cons a d iha ihd =>
  intro b pa pb w S hS ha hb
  cases b with
  | num q' => rw [decide_eq_false (by simp)]; exact eqKind 4 1 (by decide) _ _ _ _ _ _ _ _ _ _ _ _ w
  | str s' => rw [decide_eq_false (by simp)]; exact eqKind 4 3 (by decide) _ _ _ _ _ _ _ _ _ _ _ _ w
  | sym p' n' => rw [decide_eq_false (by simp)]; exact eqKind 4 2 (by decide) _ _ _ _ _ _ _ _ _ _ _ _ w
  | cons a' d' =>
   obtain ⟨g, o, c, qa, qd, rfl, hc, hg, hx, h1, h2⟩ := ha
   obtain ⟨g', o', c', qa', qd', rfl, hc', hg', hx', h1', h2'⟩ := hb
   have k1 := fun w' (hw : Below w.heap.size w w') => iha a' qa qa' w' S (hS.later hw.size) (h1.below hS hw) (h1'.below hS hw)
   have k2 := fun w' (hw : Below w.heap.size w w') => ihd d' qd qd' w' S (hS.later hw.size) (h2.below hS hw) (h2'.below hS hw)
   have hr : decide (Ob.cons a d = Ob.cons a' d') = (decide (a = a') && decide (d = d')) := by
    rw [← Bool.decide_and]
    simp
   rw [hr]
   unfold vO at k1 k2
   obtain ⟨x0, x1, x2, x3, x4, x5, ea⟩ := cells7 a qa
   obtain ⟨y0, y1, y2, y3, y4, y5, ed⟩ := cells7 d qd
   obtain ⟨z0, z1, z2, z3, z4, z5, ea'⟩ := cells7 a' qa'
   obtain ⟨t0, t1, t2, t3, t4, t5, ed'⟩ := cells7 d' qd'
   rw [ea, ed] at hx
   rw [ea', ed'] at hx'
   rw [ea, ea'] at k1
   rw [ed, ed'] at k2
   exact equalCC g o c g' o' c' w x0 x1 x2 x3 x4 x5 qa y0 y1 y2 y3 y4 y5 qd z0 z1 z2 z3 z4 z5 qa' t0 t1 t2 t3 t4 t5 qd' _ _ (hS g hg.1) (hS g' hg'.1) hc hc'
    (fun j u h => hx j u (by simpa using h)) (fun j u h => hx' j u (by simpa using h)) k1 k2
theorem tmod_emod (n m : Int) (hm : 0 < m) : (if n.tmod m < 0 then n.tmod m + m else n.tmod m) = n % m := by
 have h := Int.emod_eq_tmod (a := n) (b := m)
 have h1 := Int.emod_nonneg n (show m ≠ 0 by omega)
 have h2 := Int.emod_lt_of_pos n hm
 rcases Int.lt_or_le n 0 with hn | hn
 · have h3 : n.tmod m = -((-n) % m) := by
    rw [← Int.tmod_eq_emod_of_nonneg (by omega), Int.neg_tmod, Int.neg_neg]
   have h4 := Int.emod_nonneg (-n) (show m ≠ 0 by omega)
   have h5 := Int.emod_lt_of_pos (-n) hm
   have h6 : (-n) % m = (if n % m = 0 then 0 else m - n % m) := by
    rw [Int.neg_emod]
    split
    · rename_i g1; rw [if_pos (Int.emod_eq_zero_of_dvd g1)]
    · rename_i g1; rw [if_neg (fun g2 => g1 (Int.dvd_of_emod_eq_zero g2))]; omega
   split at h6 <;> split <;> omega
 · rw [Int.tmod_eq_emod_of_nonneg hn]
   split <;> omega

set_option maxHeartbeats 1000000 in
theorem modO (n m : Int) (w : World) (hn : -9223372036854775808 ≤ n) (hn' : n ≤ 9223372036854775807) (hm : 0 < m) (hm' : m ≤ 100000) :
 Calls Tryz.prog 22 #[.int .i64 n, .int .i64 m] w fun e w' => e = .returned (.int .i64 (n % m)) ∧ w = w' := by
 have h0 := Lib.hid (tmod_emod n m hm)
 have b1 := Int.tmod_lt_of_pos n hm
 have b2 := Int.lt_tmod_of_pos n hm
 go_enter Tryz.func22, Tryz.ntmps22
 go_wp2_with fail
 all_goals go_ret
 all_goals refine ⟨ret_int ?_, rfl⟩
 · rename_i hq
   have := h0.out
   rw [if_pos hq] at this
   exact this
 · rename_i hq
   have := h0.out
   rw [if_neg (by omega)] at this
   exact this

inductive Rw where
 | mk (k n : Int) (s : ByteArray) (l : List Rw)

def I64 (n : Int) : Prop := -9223372036854775808 ≤ n ∧ n ≤ 9223372036854775807

mutual
def RawAt (w : World) (S : Nat → Prop) : Rw → List Value → Prop
 | .mk k n s l, cs => ∃ A c, cs = [.int .i64 k, .int .i64 n, .string s, .slice A l.length c] ∧ I64 k ∧ I64 n ∧ l.length ≤ c ∧ c ≤ maxLen ∧
  (0 < l.length → ∃ b o, A = some ⟨b, o, none⟩ ∧ S b ∧ RawsAt w S b o l)
def RawsAt (w : World) (S : Nat → Prop) (b o : Nat) : List Rw → Prop
 | [] => True
 | r :: rs => (∃ cs, RawAt w S r cs ∧ ∀ j u, cs[j]? = some u → w.cell? ⟨b, o + j, none⟩ = some u) ∧ RawsAt w S b (o + 4) rs
end

mutual
theorem RawAt.keep {w w' : World} {S : Nat → Prop} (hk : ∀ p : Addr, S p.block → w'.cell? p = w.cell? p) : ∀ (r : Rw) (cs : List Value), RawAt w S r cs → RawAt w' S r cs
 | .mk k n s l, cs, h => by
  unfold RawAt at h ⊢
  obtain ⟨A, c, h1, h2, h3, h4, h5, h6⟩ := h
  refine ⟨A, c, h1, h2, h3, h4, h5, fun hl => ?_⟩
  obtain ⟨b, o, e, hb, hr⟩ := h6 hl
  exact ⟨b, o, e, hb, RawsAt.keep hk b o hb l hr⟩
theorem RawsAt.keep {w w' : World} {S : Nat → Prop} (hk : ∀ p : Addr, S p.block → w'.cell? p = w.cell? p) (b o : Nat) (hb : S b) : ∀ l : List Rw, RawsAt w S b o l → RawsAt w' S b o l
 | [], _ => by unfold RawsAt; trivial
 | r :: rs, h => by
  unfold RawsAt at h ⊢
  obtain ⟨⟨cs, h1, h2⟩, h3⟩ := h
  exact ⟨⟨cs, RawAt.keep hk r cs h1, fun j u hj => (hk ⟨b, o + j, none⟩ hb).trans (h2 j u hj)⟩, RawsAt.keep hk b (o + 4) hb rs h3⟩
end
theorem RawAt.below {w w' : World} {S : Nat → Prop} {B : Nat} {r : Rw} {cs : List Value} (h : RawAt w S r cs) (hS : ∀ b, S b → b < B) (hb : Below B w w') : RawAt w' S r cs := h.keep fun q hq => hb.cell (hS q.block hq)
theorem RawsAt.get {w : World} {S : Nat → Prop} {b : Nat} : ∀ {l : List Rw} {o i : Nat} (hi : i < l.length), RawsAt w S b o l → ∃ cs, RawAt w S l[i] cs ∧ ∀ j u, cs[j]? = some u → w.cell? ⟨b, o + i * 4 + j, none⟩ = some u
 | r :: rs, o, 0, hi, h => by
  unfold RawsAt at h
  obtain ⟨cs, h1, h2⟩ := h.1
  exact ⟨cs, h1, fun j u hj => by rw [Nat.zero_mul, Nat.add_zero]; exact h2 j u hj⟩
 | r :: rs, o, i + 1, hi, h => by
  unfold RawsAt at h
  obtain ⟨cs, h1, h2⟩ := RawsAt.get (l := rs) (o := o + 4) (i := i) (by simpa using hi) h.2
  exact ⟨cs, h1, fun j u hj => by rw [show o + (i + 1) * 4 + j = o + 4 + i * 4 + j from by omega]; exact h2 j u hj⟩
mutual
theorem Rw.ind {P : Rw → Prop} (h : ∀ k n s l, (∀ r ∈ l, P r) → P (.mk k n s l)) : ∀ r, P r
 | .mk k n s l => h k n s l (Rw.inds h l)
theorem Rw.inds {P : Rw → Prop} (h : ∀ k n s l, (∀ r ∈ l, P r) → P (.mk k n s l)) : ∀ l : List Rw, ∀ r ∈ l, P r
 | [] => fun r hr => by simp at hr
 | x :: xs => fun r hr => by
  rcases List.mem_cons.1 hr with e | e
  · rw [e]; exact Rw.ind h x
  · exact Rw.inds h xs r e
end

end Go.Proofs.YtflnffgohbbhiaaGreatDoor
