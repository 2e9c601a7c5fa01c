/- The reference's normal, way by way. -/
import Derived.Test.YtocbedijpomemaaGreatDoorG19
import Derived.Test.YtocbedijpomemaaGreatDoorG22
namespace Go.Proofs.YtocbedijpomemaaGreatDoor
open Go Go.RowKit
set_option linter.unusedVariables false
set_option maxHeartbeats 32000000
set_option maxRecDepth 100000
section
variable {Q : Exit → Act → World → Prop} {ops : Array Oper} {K : Act → World → Prop} {a : Act} {w : World} {i : Nat} {o : Oper}
theorem gr_pair (ho : ops[i]? = some o) (hg : o.guard = none) (s : Tmp) (b k : Nat) (hop : o.op = Op.fieldAddr 35 (.tmp s) 5) (hx : a.tmps[s]? = some (.pointer (some ⟨b, k, none⟩))) (hK : K (a.put o.dst (.pointer (some ⟨b, k + 6, none⟩))) w) : wpOp Tryz.prog ops Q i K a w :=
 wpOp_step ho fun K' hK' => by
  rw [if_pos (wanted_plain hg)]
  unfold Oper.wp
  simp only [execOp, hop]
  go_simp
  exact hK' _ _ hK
theorem gr_loadSl (ho : ops[i]? = some o) (hg : o.guard = none) (s : Tmp) (b k : Nat) (v : Value) (hop : o.op = Op.load 33 (.tmp s)) (hx : a.tmps[s]? = some (.pointer (some ⟨b, k, none⟩))) (hc : w.cell? ⟨b, k, none⟩ = some v) (hK : K (a.put o.dst v) w) : wpOp Tryz.prog ops Q i K a w :=
 wpOp_step ho fun K' hK' => by
  rw [if_pos (wanted_plain hg)]
  unfold Oper.wp
  simp only [execOp, hop]
  go_simp
  exact hK' _ _ hK
theorem gr_at0 (ho : ops[i]? = some o) (hg : o.guard = none) (s : Tmp) (b k n : Nat) (hop : o.op = Op.indexAddr 33 (.tmp s) (.const (.int .i64 0))) (hx : a.tmps[s]? = some (.slice (some ⟨b, k, none⟩) 2 n)) (hK : K (a.put o.dst (.pointer (some ⟨b, k, none⟩))) w) : wpOp Tryz.prog ops Q i K a w :=
 wpOp_step ho fun K' hK' => by
  rw [if_pos (wanted_plain hg)]
  unfold Oper.wp
  simp only [execOp, hop]
  go_simp
  exact hK' _ _ hK
theorem gr_at1 (ho : ops[i]? = some o) (hg : o.guard = none) (s : Tmp) (b k n : Nat) (hop : o.op = Op.indexAddr 33 (.tmp s) (.const (.int .i64 1))) (hx : a.tmps[s]? = some (.slice (some ⟨b, k, none⟩) 2 n)) (hK : K (a.put o.dst (.pointer (some ⟨b, k + 7, none⟩))) w) : wpOp Tryz.prog ops Q i K a w :=
 wpOp_step ho fun K' hK' => by
  rw [if_pos (wanted_plain hg)]
  unfold Oper.wp
  simp only [execOp, hop]
  go_simp
  exact hK' _ _ hK
theorem gr_loadAt {S : Nat → Prop} (ho : ops[i]? = some o) (hg : o.guard = none) (s : Tmp) (b k : Nat) (ob : Ob) (p : Value) (hop : o.op = Op.load 35 (.tmp s)) (hx : a.tmps[s]? = some (.pointer (some ⟨b, k, none⟩))) (hc : At w S ob b k p) (hK : K (a.put o.dst (vO ob p)) w) : wpOp Tryz.prog ops Q i K a w :=
 wpOp_step ho fun K' hK' => by
  rw [if_pos (wanted_plain hg)]
  exact wp_load_mid 35 (.tmp s) hop b k (eval_of hx) (cellsO ob p) _ hc.2.1 Tryz.underlying35 rfl (by rw [cellsO_length]; kernel_rfl) (hK' _ _ hK)
end
theorem normFlat (o : Ob) (p : Value) (w : World) (hi : o.inf = false) (hp : Hd w o p) : Calls Tryz.prog 63 #[vO o p] w (RetB w o.nat.isSome) := by
 obtain ⟨a0, a1, a2, a3, a4, a5, ea⟩ := cells7 (o) p
 have T := Bx1.new w #[a0, a1, a2, a3, a4, a5, p]
 rw [vO_cells ea]
 go_enter Tryz.func63, Tryz.ntmps63
 go_wp2_with fail
 generalize w.alloc (.cells #[a0, a1, a2, a3, a4, a5, p] 35) = W at T ⊢
 have B0 : Hid (Bx W (w.heap.size) (cellsO (o) p).toArray) := by rw [ea]; exact T.b0
 have K0 := hI (hp.below T.bel)
 have HW := hI T.bel
 try rw [← vO_cells ea]
 clear T ea hp
 with_reducible refine (infR o p _ false hi K0.out).mono ?_
 rintro e w1 ⟨rfl, hb⟩
 replace B0 := kB B0 hb
 replace K0 := kH K0 hb
 replace HW := kW HW hb
 clear hb
 go_wp2_with (with_reducible refine lG (.tmp 1) B0.out ?_)
 with_reducible refine (naturalR o p _ K0.out).mono ?_
 rintro e w2 ⟨rfl, hb⟩
 replace B0 := kB B0 hb
 replace K0 := kH K0 hb
 replace HW := kW HW hb
 clear hb
 go_wp2_with (with_reducible refine lG (.tmp 1) B0.out ?_)
 go_ret
 exact ⟨rfl, HW.out⟩
theorem normAll (e c r : Ob) (p : Value) (w : World) (res : Bool) (way : ((∀ X q, Hd X e q → Tab X → Calls Tryz.prog 63 #[vO e q] X (RetB X false)) ∧ res = false) ∨ ((∀ X q, Hd X e q → Tab X → Calls Tryz.prog 63 #[vO e q] X (RetB X true)) ∧ (e.numIs 0 = true) ∧ res = false) ∨ ((∀ X q, Hd X e q → Tab X → Calls Tryz.prog 63 #[vO e q] X (RetB X true)) ∧ (e.numIs 0 = false) ∧ (∀ X q, Hd X c q → Calls Tryz.prog 85 #[vO c q] X (RetB X false)) ∧ res = false) ∨ ((∀ X q, Hd X e q → Tab X → Calls Tryz.prog 63 #[vO e q] X (RetB X true)) ∧ (e.numIs 0 = false) ∧ (∀ X q, Hd X c q → Calls Tryz.prog 85 #[vO c q] X (RetB X true)) ∧ (c.numIs 0 = true) ∧ res = false) ∨ ((∀ X q, Hd X e q → Tab X → Calls Tryz.prog 63 #[vO e q] X (RetB X true)) ∧ (e.numIs 0 = false) ∧ (∀ X q, Hd X c q → Calls Tryz.prog 85 #[vO c q] X (RetB X true)) ∧ (c.numIs 0 = false) ∧ (∀ X q, Hd X r q → Tab X → Calls Tryz.prog 63 #[vO r q] X (RetB X false)) ∧ res = false) ∨ (∃ (x : Ob) (lt : Bool), (∀ X q, Hd X e q → Tab X → Calls Tryz.prog 63 #[vO e q] X (RetB X true)) ∧ (e.numIs 0 = false) ∧ (∀ X q, Hd X c q → Calls Tryz.prog 85 #[vO c q] X (RetB X true)) ∧ (c.numIs 0 = false) ∧ (∀ X q, Hd X r q → Tab X → Calls Tryz.prog 63 #[vO r q] X (RetB X true)) ∧ (∀ X q, Hd X r q → Tab X → Calls Tryz.prog 37 #[vO r q] X (RetH X x)) ∧ (∀ X q t, Hd X x q → Hd X e t → Tab X → Calls Tryz.prog 60 #[vO x q, vO e t] X (RetB X lt)) ∧ lt = res)) (hp : Hd w (.cons (.cons e c) r) p) (ht : Tab w) :
 Calls Tryz.prog 63 #[vO (.cons (.cons e c) r) p] w (RetB w res) := by
 have WY := hI way
 clear way
 obtain ⟨b1, o1, n1, pa, pd, rfl, hn1, hA, hD⟩ := hp.cons
 obtain ⟨b2, o2, n2, pe, pc, rfl, hn2, hE, hC⟩ := hA.hd.cons
 have ea : cellsO (.cons (.cons e c) r) (.slice (some ⟨b1, o1, none⟩) 2 n1) = [.int .i64 4, .string ⟨#[]⟩, .string ⟨#[]⟩, .string ⟨#[]⟩, .string ⟨#[]⟩, .string ⟨#[]⟩, (.slice (some ⟨b1, o1, none⟩) 2 n1)] := rfl
 have T := Bx1.new w #[.int .i64 4, .string ⟨#[]⟩, .string ⟨#[]⟩, .string ⟨#[]⟩, .string ⟨#[]⟩, .string ⟨#[]⟩, (.slice (some ⟨b1, o1, none⟩) 2 n1)]
 rw [vO_cells ea]
 go_enter Tryz.func63, Tryz.ntmps63
 go_upto_region 1 with fail
 generalize w.alloc (.cells #[.int .i64 4, .string ⟨#[]⟩, .string ⟨#[]⟩, .string ⟨#[]⟩, .string ⟨#[]⟩, .string ⟨#[]⟩, (.slice (some ⟨b1, o1, none⟩) 2 n1)] 35) = W at T ⊢
 have B0 : Hid (Bx W (w.heap.size) (cellsO (.cons (.cons e c) r) (.slice (some ⟨b1, o1, none⟩) 2 n1)).toArray) := by rw [ea]; exact T.b0
 have K0 := hI (hp.below T.bel)
 have HW := hI T.bel
 have HT := hI (ht.below T.bel)
 try rw [← vO_cells ea]
 clear T ea hp ht
 have HA := hI (hA.below HW.out)
 have HC := hI (hC.below HW.out)
 have HD := hI (hD.below HW.out)
 have HE := hI (hE.below HW.out)
 clear hA hC hD hE
 go_wp2_with (first | (with_reducible refine lG (.tmp 1) B0.out ?_) | ((with_reducible refine loadA ?_ ?_ HA.out ?_); exact ⟨_, rfl, rfl⟩; rfl) | ((with_reducible refine loadAG ?_ ?_ HA.out ?_); exact ⟨_, rfl, rfl⟩; rfl) | ((with_reducible refine loadA ?_ ?_ HC.out ?_); exact ⟨_, rfl, rfl⟩; rfl) | ((with_reducible refine loadAG ?_ ?_ HC.out ?_); exact ⟨_, rfl, rfl⟩; rfl) | ((with_reducible refine loadA ?_ ?_ HD.out ?_); exact ⟨_, rfl, rfl⟩; rfl) | ((with_reducible refine loadAG ?_ ?_ HD.out ?_); exact ⟨_, rfl, rfl⟩; rfl) | ((with_reducible refine loadA ?_ ?_ HE.out ?_); exact ⟨_, rfl, rfl⟩; rfl) | ((with_reducible refine loadAG ?_ ?_ HE.out ?_); exact ⟨_, rfl, rfl⟩; rfl))
 with_reducible refine (infR (.cons (.cons e c) r) _ _ true rfl K0.out).mono ?_
 rintro e w1 ⟨rfl, hb⟩
 replace B0 := kB B0 hb
 replace K0 := kH K0 hb
 replace HW := kW HW hb
 replace HT := kT HT hb
 replace HA := hI (HA.out.below hb)
 replace HC := hI (HC.out.below hb)
 replace HD := hI (HD.out.below hb)
 replace HE := hI (HE.out.below hb)
 clear hb
 have m6 := hI (Bx.c B0.out).2.2.2.2.2.2
 go_wp2_with fail
 refine wp_region_growM (l := _) 21 2 (by kernel_rfl) (by kernel_rfl) (fun i => [11, 12, 13, 14, 15, 16, 17, 18, 19, 20, 21, 22, 23, 24, 25, 26, 27, 28, 3, 4, 5].getD i 0) (LR [LV (.pointer (some ⟨w.heap.size, 0 + 6, none⟩)), LV (.slice (some ⟨b1, o1, none⟩) 2 n1), LV (.pointer (some ⟨b1, o1, none⟩)), LV (.pointer (some ⟨b1, o1 + 6, none⟩)), LV (.slice (some ⟨b2, o2, none⟩) 2 n2), LV (.pointer (some ⟨b2, o2, none⟩)), LH e, LV (.pointer (some ⟨w.heap.size, 0 + 6, none⟩)), LV (.slice (some ⟨b1, o1, none⟩) 2 n1), LV (.pointer (some ⟨b1, o1, none⟩)), LV (.pointer (some ⟨b1, o1 + 6, none⟩)), LV (.slice (some ⟨b2, o2, none⟩) 2 n2), LV (.pointer (some ⟨b2, o2 + 7, none⟩)), LH c, LV (.pointer (some ⟨w.heap.size, 0 + 6, none⟩)), LV (.slice (some ⟨b1, o1, none⟩) 2 n1), LV (.pointer (some ⟨b1, o1 + 7, none⟩)), LH r, LBx, LBx, LBx]) (LR_mono ⟨mLV _, mLV _, mLV _, mLV _, mLV _, mLV _, mLH _, mLV _, mLV _, mLV _, mLV _, mLV _, mLV _, mLH _, mLV _, mLV _, mLV _, mLH _, mLBx, mLBx, mLBx, trivial⟩) (by
  intro i j hi hj h
  exact inj_getD [11, 12, 13, 14, 15, 16, 17, 18, 19, 20, 21, 22, 23, 24, 25, 26, 27, 28, 3, 4, 5] (by decide) i j hi hj h) (by
  intro i hi
  exact lt_getD 55 [11, 12, 13, 14, 15, 16, 17, 18, 19, 20, 21, 22, 23, 24, 25, 26, 27, 28, 3, 4, 5] (by decide) i hi) [7, 8, 9, 10, 11, 12, 13, 14, 15, 16, 17, 19, 20] (by kernel_rfl) (fun s => [18, 19].getD s 0) (fun s => [6, 13].getD s 0) (fun s => [e, c].getD s .nil)
  (fun s hs => lt_getD 21 [18, 19] (by decide) s hs) (fun s hs => lt_getD 21 [6, 13] (by decide) s hs) (fun s t hs ht h => inj_getD [18, 19] (by decide) s t hs ht h) (by kernel_rfl)
  (fun s hs => match s, hs with
   | 0, _ => ⟨_, rfl, rfl, rfl, rfl⟩
   | 1, _ => ⟨_, rfl, rfl, rfl, rfl⟩)
  (fun s hs => match s, hs with
   | 0, _ => fun _ _ _ _ h => h
   | 1, _ => fun _ _ _ _ h => h)
  (fun s hs => match s, hs with
   | 0, _ => fun _ _ _ _ h => h
   | 1, _ => fun _ _ _ _ h => h) ?step ?stepL ?done
 case step =>
  intro i hi a w9 v lo hi' hoth hb hw
  have sl1 : a.tmps[1]? = some (.pointer (some ⟨w.heap.size, 0, none⟩)) := (hoth 1 (fun j hj => ne_getD 1 _ (by decide) j hj)).trans rfl
  have hold : ∀ b, b < w1.heap.size → w9.heap[b]? = w1.heap[b]? := fun b h => hb.block b h
  have c1 : w9.cell? ⟨w.heap.size, 0 + 6, none⟩ = some (.slice (some ⟨b1, o1, none⟩) 2 n1) := (World.cell?_of_block (a := ⟨w.heap.size, 0 + 6, none⟩) (hold _ B0.out.lt)).trans m6.out
  have aA := At.keep (fun _ h => h) hold HA.out
  have c2 : w9.cell? ⟨b1, o1 + 6, none⟩ = some (.slice (some ⟨b2, o2, none⟩) 2 n2) := aA.last
  have aE := At.keep (fun _ h => h) hold HE.out
  have aC := At.keep (fun _ h => h) hold HC.out
  have aD := At.keep (fun _ h => h) hold HD.out
  have hE : Hd w9 e pe := HE.out.hd.below hb
  have hC : Hd w9 c pc := HC.out.hd.below hb
  have hD : Hd w9 r pd := HD.out.hd.below hb
  match i, hi with
  | 0, _ =>
   exact gr_pair rfl rfl 1 _ _ rfl sl1 ⟨_, rfl, Below.refl _ _, rfl⟩
  | 1, _ =>
   obtain ⟨s0, r0, _⟩ := hw 0 (by omega) (by kernel_rfl)
   have e0 : v 0 = .pointer (some ⟨w.heap.size, 0 + 6, none⟩) := r0
   rw [e0] at s0
   exact gr_loadSl rfl rfl 11 _ _ _ rfl s0 c1 ⟨_, rfl, Below.refl _ _, rfl⟩
  | 2, _ =>
   obtain ⟨s0, r0, _⟩ := hw 1 (by omega) (by kernel_rfl)
   have e0 : v 1 = .slice (some ⟨b1, o1, none⟩) 2 n1 := r0
   rw [e0] at s0
   exact gr_at0 rfl rfl 12 _ _ _ rfl s0 ⟨_, rfl, Below.refl _ _, rfl⟩
  | 3, _ =>
   obtain ⟨s0, r0, _⟩ := hw 2 (by omega) (by kernel_rfl)
   have e0 : v 2 = .pointer (some ⟨b1, o1, none⟩) := r0
   rw [e0] at s0
   exact gr_pair rfl rfl 13 _ _ rfl s0 ⟨_, rfl, Below.refl _ _, rfl⟩
  | 4, _ =>
   obtain ⟨s0, r0, _⟩ := hw 3 (by omega) (by kernel_rfl)
   have e0 : v 3 = .pointer (some ⟨b1, o1 + 6, none⟩) := r0
   rw [e0] at s0
   exact gr_loadSl rfl rfl 14 _ _ _ rfl s0 c2 ⟨_, rfl, Below.refl _ _, rfl⟩
  | 5, _ =>
   obtain ⟨s0, r0, _⟩ := hw 4 (by omega) (by kernel_rfl)
   have e0 : v 4 = .slice (some ⟨b2, o2, none⟩) 2 n2 := r0
   rw [e0] at s0
   exact gr_at0 rfl rfl 15 _ _ _ rfl s0 ⟨_, rfl, Below.refl _ _, rfl⟩
  | 6, _ =>
   obtain ⟨s0, r0, _⟩ := hw 5 (by omega) (by kernel_rfl)
   have e0 : v 5 = .pointer (some ⟨b2, o2, none⟩) := r0
   rw [e0] at s0
   exact gr_loadAt rfl rfl 16 _ _ _ _ rfl s0 aE ⟨_, rfl, Below.refl _ _, pe, rfl, hE⟩
  | 7, _ =>
   exact gr_pair rfl rfl 1 _ _ rfl sl1 ⟨_, rfl, Below.refl _ _, rfl⟩
  | 8, _ =>
   obtain ⟨s0, r0, _⟩ := hw 7 (by omega) (by kernel_rfl)
   have e0 : v 7 = .pointer (some ⟨w.heap.size, 0 + 6, none⟩) := r0
   rw [e0] at s0
   exact gr_loadSl rfl rfl 18 _ _ _ rfl s0 c1 ⟨_, rfl, Below.refl _ _, rfl⟩
  | 9, _ =>
   obtain ⟨s0, r0, _⟩ := hw 8 (by omega) (by kernel_rfl)
   have e0 : v 8 = .slice (some ⟨b1, o1, none⟩) 2 n1 := r0
   rw [e0] at s0
   exact gr_at0 rfl rfl 19 _ _ _ rfl s0 ⟨_, rfl, Below.refl _ _, rfl⟩
  | 10, _ =>
   obtain ⟨s0, r0, _⟩ := hw 9 (by omega) (by kernel_rfl)
   have e0 : v 9 = .pointer (some ⟨b1, o1, none⟩) := r0
   rw [e0] at s0
   exact gr_pair rfl rfl 20 _ _ rfl s0 ⟨_, rfl, Below.refl _ _, rfl⟩
  | 11, _ =>
   obtain ⟨s0, r0, _⟩ := hw 10 (by omega) (by kernel_rfl)
   have e0 : v 10 = .pointer (some ⟨b1, o1 + 6, none⟩) := r0
   rw [e0] at s0
   exact gr_loadSl rfl rfl 21 _ _ _ rfl s0 c2 ⟨_, rfl, Below.refl _ _, rfl⟩
  | 12, _ =>
   obtain ⟨s0, r0, _⟩ := hw 11 (by omega) (by kernel_rfl)
   have e0 : v 11 = .slice (some ⟨b2, o2, none⟩) 2 n2 := r0
   rw [e0] at s0
   exact gr_at1 rfl rfl 22 _ _ _ rfl s0 ⟨_, rfl, Below.refl _ _, rfl⟩
  | 13, _ =>
   obtain ⟨s0, r0, _⟩ := hw 12 (by omega) (by kernel_rfl)
   have e0 : v 12 = .pointer (some ⟨b2, o2 + 7, none⟩) := r0
   rw [e0] at s0
   exact gr_loadAt rfl rfl 23 _ _ _ _ rfl s0 aC ⟨_, rfl, Below.refl _ _, pc, rfl, hC⟩
  | 14, _ =>
   exact gr_pair rfl rfl 1 _ _ rfl sl1 ⟨_, rfl, Below.refl _ _, rfl⟩
  | 15, _ =>
   obtain ⟨s0, r0, _⟩ := hw 14 (by omega) (by kernel_rfl)
   have e0 : v 14 = .pointer (some ⟨w.heap.size, 0 + 6, none⟩) := r0
   rw [e0] at s0
   exact gr_loadSl rfl rfl 25 _ _ _ rfl s0 c1 ⟨_, rfl, Below.refl _ _, rfl⟩
  | 16, _ =>
   obtain ⟨s0, r0, _⟩ := hw 15 (by omega) (by kernel_rfl)
   have e0 : v 15 = .slice (some ⟨b1, o1, none⟩) 2 n1 := r0
   rw [e0] at s0
   exact gr_at1 rfl rfl 26 _ _ _ rfl s0 ⟨_, rfl, Below.refl _ _, rfl⟩
  | 17, _ =>
   obtain ⟨s0, r0, _⟩ := hw 16 (by omega) (by kernel_rfl)
   have e0 : v 16 = .pointer (some ⟨b1, o1 + 7, none⟩) := r0
   rw [e0] at s0
   exact gr_loadAt rfl rfl 27 _ _ _ _ rfl s0 aD ⟨_, rfl, Below.refl _ _, pd, rfl, hD⟩
  | 18, _ =>
   exact grow_allocO rfl rfl rfl ⟨_, rfl, Below.alloc (Below.refl _ _) (Nat.le_refl _) _, rfl, heap_alloc_new _ _, by simp⟩
  | 19, _ =>
   exact grow_allocO rfl rfl rfl ⟨_, rfl, Below.alloc (Below.refl _ _) (Nat.le_refl _) _, rfl, heap_alloc_new _ _, by simp⟩
  | 20, _ =>
   exact grow_allocO rfl rfl rfl ⟨_, rfl, Below.alloc (Below.refl _ _) (Nat.le_refl _) _, rfl, heap_alloc_new _ _, by simp⟩
  | k + 21, h => exact absurd h (by omega)
 case stepL =>
  intro i hi hl a w8 w9 v lo hi' hoth hb hol2 hsw hw
  have sl1 : a.tmps[1]? = some (.pointer (some ⟨w.heap.size, 0, none⟩)) := (hoth 1 (fun j hj => ne_getD 1 _ (by decide) j hj)).trans rfl
  have hold : ∀ b, b < w1.heap.size → w9.heap[b]? = w1.heap[b]? := fun b h => (hol2 b h).trans (hb.block b h)
  have c1 : w9.cell? ⟨w.heap.size, 0 + 6, none⟩ = some (.slice (some ⟨b1, o1, none⟩) 2 n1) := (World.cell?_of_block (a := ⟨w.heap.size, 0 + 6, none⟩) (hold _ B0.out.lt)).trans m6.out
  have aA := At.keep (fun _ h => h) hold HA.out
  have c2 : w9.cell? ⟨b1, o1 + 6, none⟩ = some (.slice (some ⟨b2, o2, none⟩) 2 n2) := aA.last
  have aE := At.keep (fun _ h => h) hold HE.out
  have aC := At.keep (fun _ h => h) hold HC.out
  have aD := At.keep (fun _ h => h) hold HD.out
  have hE : Hd w8 e pe := HE.out.hd.below hb
  have hC : Hd w8 c pc := HC.out.hd.below hb
  have hD : Hd w8 r pd := HD.out.hd.below hb
  match i, hi with
  | 0, _ => exact absurd hl (by decide)
  | 1, _ => exact absurd hl (by decide)
  | 2, _ => exact absurd hl (by decide)
  | 3, _ => exact absurd hl (by decide)
  | 4, _ => exact absurd hl (by decide)
  | 5, _ => exact absurd hl (by decide)
  | 6, _ => exact absurd hl (by decide)
  | 7, _ =>
   exact gr_pair rfl rfl 1 _ _ rfl sl1 ⟨_, w8, rfl, .inl ⟨rfl, rfl⟩, rfl⟩
  | 8, _ =>
   obtain ⟨s0, r0⟩ := hw 7 (by omega) (by kernel_rfl)
   have e0 : v 7 = .pointer (some ⟨w.heap.size, 0 + 6, none⟩) := r0
   rw [e0] at s0
   exact gr_loadSl rfl rfl 18 _ _ _ rfl s0 c1 ⟨_, w8, rfl, .inl ⟨rfl, rfl⟩, rfl⟩
  | 9, _ =>
   obtain ⟨s0, r0⟩ := hw 8 (by omega) (by kernel_rfl)
   have e0 : v 8 = .slice (some ⟨b1, o1, none⟩) 2 n1 := r0
   rw [e0] at s0
   exact gr_at0 rfl rfl 19 _ _ _ rfl s0 ⟨_, w8, rfl, .inl ⟨rfl, rfl⟩, rfl⟩
  | 10, _ =>
   obtain ⟨s0, r0⟩ := hw 9 (by omega) (by kernel_rfl)
   have e0 : v 9 = .pointer (some ⟨b1, o1, none⟩) := r0
   rw [e0] at s0
   exact gr_pair rfl rfl 20 _ _ rfl s0 ⟨_, w8, rfl, .inl ⟨rfl, rfl⟩, rfl⟩
  | 11, _ =>
   obtain ⟨s0, r0⟩ := hw 10 (by omega) (by kernel_rfl)
   have e0 : v 10 = .pointer (some ⟨b1, o1 + 6, none⟩) := r0
   rw [e0] at s0
   exact gr_loadSl rfl rfl 21 _ _ _ rfl s0 c2 ⟨_, w8, rfl, .inl ⟨rfl, rfl⟩, rfl⟩
  | 12, _ =>
   obtain ⟨s0, r0⟩ := hw 11 (by omega) (by kernel_rfl)
   have e0 : v 11 = .slice (some ⟨b2, o2, none⟩) 2 n2 := r0
   rw [e0] at s0
   exact gr_at1 rfl rfl 22 _ _ _ rfl s0 ⟨_, w8, rfl, .inl ⟨rfl, rfl⟩, rfl⟩
  | 13, _ =>
   obtain ⟨s0, r0⟩ := hw 12 (by omega) (by kernel_rfl)
   have e0 : v 12 = .pointer (some ⟨b2, o2 + 7, none⟩) := r0
   rw [e0] at s0
   exact gr_loadAt rfl rfl 23 _ _ _ _ rfl s0 aC ⟨_, w8, rfl, .inl ⟨rfl, rfl⟩, pc, rfl, hC⟩
  | 14, _ =>
   exact gr_pair rfl rfl 1 _ _ rfl sl1 ⟨_, w8, rfl, .inl ⟨rfl, rfl⟩, rfl⟩
  | 15, _ =>
   obtain ⟨s0, r0⟩ := hw 14 (by omega) (by kernel_rfl)
   have e0 : v 14 = .pointer (some ⟨w.heap.size, 0 + 6, none⟩) := r0
   rw [e0] at s0
   exact gr_loadSl rfl rfl 25 _ _ _ rfl s0 c1 ⟨_, w8, rfl, .inl ⟨rfl, rfl⟩, rfl⟩
  | 16, _ =>
   obtain ⟨s0, r0⟩ := hw 15 (by omega) (by kernel_rfl)
   have e0 : v 15 = .slice (some ⟨b1, o1, none⟩) 2 n1 := r0
   rw [e0] at s0
   exact gr_at1 rfl rfl 26 _ _ _ rfl s0 ⟨_, w8, rfl, .inl ⟨rfl, rfl⟩, rfl⟩
  | 17, _ =>
   obtain ⟨s0, r0⟩ := hw 16 (by omega) (by kernel_rfl)
   have e0 : v 16 = .pointer (some ⟨b1, o1 + 7, none⟩) := r0
   rw [e0] at s0
   exact gr_loadAt rfl rfl 27 _ _ _ _ rfl s0 aD ⟨_, w8, rfl, .inl ⟨rfl, rfl⟩, pd, rfl, hD⟩
  | 18, _ => exact absurd hl (by decide)
  | 19, _ =>
   exact grow_allocO rfl rfl rfl ⟨_, w8.alloc _, rfl, .inr ⟨_, rfl, rfl⟩, by rw [hsw], heap_alloc_new _ _, by simp⟩
  | 20, _ =>
   exact grow_allocO rfl rfl rfl ⟨_, w8.alloc _, rfl, .inr ⟨_, rfl, rfl⟩, by rw [hsw], heap_alloc_new _ _, by simp⟩
  | k + 21, h => exact absurd h (by omega)
 case done =>
  intro a w9 v lo hi' ps hdef hsz hoth hb hj hap hbx hvl
  obtain ⟨hv18, B18⟩ : v 18 = .pointer (some ⟨lo 18, 0, none⟩) ∧ Bx w9 (lo 18) zeroC := hbx 0 (by omega)
  obtain ⟨hv19, B19⟩ : v 19 = .pointer (some ⟨lo 19, 0, none⟩) ∧ Bx w9 (lo 19) zeroC := hbx 1 (by omega)
  obtain ⟨hv6, k0⟩ : v 6 = vO e (ps 0) ∧ Hd w9 e (ps 0) := hvl 0 (by omega)
  obtain ⟨hv13, k1⟩ : v 13 = vO c (ps 1) ∧ Hd w9 c (ps 1) := hvl 1 (by omega)
  obtain ⟨_, r17, _, _⟩ := hj 17 (by omega)
  obtain ⟨p2, hv17, k2⟩ : LH r (v 17) (lo 17) (hi' 17) w9 := r17
  obtain ⟨_, r18, hlo18, _⟩ := hj 18 (by omega)
  obtain ⟨_, r19, hlo19, _⟩ := hj 19 (by omega)
  obtain ⟨_, r20, hlo20, _⟩ := hj 20 (by omega)
  obtain ⟨_, _, lt18⟩ : LBx (v 18) (lo 18) (hi' 18) w9 := r18
  obtain ⟨_, _, lt19⟩ : LBx (v 19) (lo 19) (hi' 19) w9 := r19
  obtain ⟨hv20, B20, lt20⟩ : LBx (v 20) (lo 20) (hi' 20) w9 := r20
  have a1 := hap 18 19 (by omega) (by omega) (by decide)
  have a2 := hap 18 20 (by omega) (by omega) (by decide)
  have a3 := hap 19 20 (by omega) (by omega) (by decide)
  have n1 : lo 18 ≠ lo 19 := by omega
  have n2 : lo 18 ≠ lo 20 := by omega
  have n3 : lo 19 ≠ lo 20 := by omega
  have ha := eq_puts hdef hsz hoth (fun i hi => (hj i hi).1)
  subst ha
  clear hj hoth hdef hsz hap hbx hvl a1 a2 a3
  have eX : stW (stF lo (fun s => [18, 19].getD s 0) (fun s => [e, c].getD s .nil) ps) w9 2 = (w9.setRow (lo 18) (cellsO e (ps 0)).toArray).setRow (lo 19) (cellsO c (ps 1)).toArray := rfl
  rw [eX]
  clear eX
  have bX0 : Bx (((w9.setRow (lo 18) (cellsO e (ps 0)).toArray).setRow (lo 19) (cellsO c (ps 1)).toArray).setRow (lo 20) (cellsO r p2).toArray) (lo 18) (cellsO e (ps 0)).toArray := ((B18.set).other n1).other n2
  have bX1 : Bx (((w9.setRow (lo 18) (cellsO e (ps 0)).toArray).setRow (lo 19) (cellsO c (ps 1)).toArray).setRow (lo 20) (cellsO r p2).toArray) (lo 19) (cellsO c (ps 1)).toArray := ((B19.other (Ne.symm n1)).set).other n3
  have b20 : Bx ((w9.setRow (lo 18) (cellsO e (ps 0)).toArray).setRow (lo 19) (cellsO c (ps 1)).toArray) (lo 20) zeroC := (B20.other (Ne.symm n2)).other (Ne.symm n3)
  have bX2 : Bx (((w9.setRow (lo 18) (cellsO e (ps 0)).toArray).setRow (lo 19) (cellsO c (ps 1)).toArray).setRow (lo 20) (cellsO r p2).toArray) (lo 20) (cellsO r p2).toArray := b20.set
  have j19 : Bx (w9.setRow (lo 18) (cellsO e (ps 0)).toArray) (lo 19) zeroC := B19.other (Ne.symm n1)
  have box : ∀ {o p}, Hd w9 o p → Hd (((w9.setRow (lo 18) (cellsO e (ps 0)).toArray).setRow (lo 19) (cellsO c (ps 1)).toArray).setRow (lo 20) (cellsO r p2).toArray) o p := fun h =>
   ((h.box B18 rfl _).box j19 rfl _).box b20 rfl _
  have kX0 := box k0
  have kX1 := box k1
  have kX2 := box k2
  have hX := below_setRowO (below_setRowO (below_setRowO hb hlo18 (cellsO e (ps 0)).toArray) hlo19 (cellsO c (ps 1)).toArray) hlo20 (cellsO r p2).toArray
  have K2 := hI k2
  have B20' := hI b20
  clear box k0 k1 k2 B18 B19 B20 b20 j19 hb
  simp only [puts, List.getD_cons_zero, List.getD_cons_succ, hv6, hv13, hv17, hv18, hv19, hv20]
  generalize v 0 = v0
  generalize v 1 = v1
  generalize v 2 = v2
  generalize v 3 = v3
  generalize v 4 = v4
  generalize v 5 = v5
  generalize v 7 = v7
  generalize v 8 = v8
  generalize v 9 = v9
  generalize v 10 = v10
  generalize v 11 = v11
  generalize v 12 = v12
  generalize v 14 = v14
  generalize v 15 = v15
  generalize v 16 = v16
  clear hv6 hv13 hv17 hv18 hv19 hv20
  generalize lo 18 = g0 at *
  generalize lo 19 = g1 at *
  generalize lo 20 = g2 at *
  generalize ps 0 = p0 at *
  generalize ps 1 = p1 at *
  simp only [Act.put, List.setIfInBounds_toArray, List.set_cons_zero, List.set_cons_succ]
  show wpList _ _ _ [_] _ _
  refine storeB (w1 := w9) (g := g2) (b := r) (p := p2) (.tmp 5) (.tmp 28) rfl rfl rfl rfl K2.out B20'.out ?_
  generalize (((w9.setRow g0 (cellsO e p0).toArray).setRow g1 (cellsO c p1).toArray).setRow g2 (cellsO r p2).toArray) = X at hX bX0 bX1 bX2 kX0 kX1 kX2 ⊢
  clear K2 B20' n1 n2 n3 hlo18 hlo19 hlo20 lt18 lt19 lt20
  have D0 := hI bX0
  have D1 := hI bX1
  have D2 := hI bX2
  have k0 := hI kX0
  have k1 := hI kX1
  have k2 := hI kX2
  replace HW := hI (chain2 HW.out hX (Nat.le_refl _))
  replace HT := hI (HT.out.below hX)
  clear hX bX0 bX1 bX2 kX0 kX1 kX2 m6 HA HC HD HE B0 K0
  go_wp2_with fail
  have way := WY.out
  clear WY
  rcases way with ⟨iE, rfl⟩ | ⟨iE, hz, rfl⟩ | ⟨iE, hz, nC, rfl⟩ | ⟨iE, hz, nC, hzc, rfl⟩ | ⟨iE, hz, nC, hzc, iR, rfl⟩ | ⟨x, lt, iE, hz, nC, hzc, iR, eX, lS, rfl⟩
  · have IE := hI iE
    clear iE
    refine wp_region_grow (l := _) 26 (by kernel_rfl) (by kernel_rfl) (fun i => [29, 30, 31, 32, 33, 34, 35, 36, 37, 38, 39, 40, 41, 42, 43, 44, 45, 46, 47, 48, 49, 50, 51, 52, 53, 54].getD i 0) (LR [LV (vO (e) p0), LV (.bool false), LV (.bool false), LV undef, LV undef, LV undef, LV (.bool false), LV (.bool false), LV undef, LV undef, LV (.bool false), LV (.bool false), LV undef, LV undef, LV undef, LV (.bool false), LV (.bool false), LV undef, LV undef, LV (.bool false), LV (.bool false), LV undef, LV undef, LV undef, LV undef, LV (.bool false)]) (LR_mono ⟨mLV _, mLV _, mLV _, mLV _, mLV _, mLV _, mLV _, mLV _, mLV _, mLV _, mLV _, mLV _, mLV _, mLV _, mLV _, mLV _, mLV _, mLV _, mLV _, mLV _, mLV _, mLV _, mLV _, mLV _, mLV _, mLV _, trivial⟩) (by
     intro i j hi hj h
     exact inj_getD [29, 30, 31, 32, 33, 34, 35, 36, 37, 38, 39, 40, 41, 42, 43, 44, 45, 46, 47, 48, 49, 50, 51, 52, 53, 54] (by decide) i j hi hj h) (by
     intro i hi
     exact lt_getD 55 [29, 30, 31, 32, 33, 34, 35, 36, 37, 38, 39, 40, 41, 42, 43, 44, 45, 46, 47, 48, 49, 50, 51, 52, 53, 54] (by decide) i hi) ?step ?done
    case step =>
     intro i hi a w9 v lo hi' hoth hb hw
     have sl3 : a.tmps[3]? = some (.pointer (some ⟨g0, 0, none⟩)) := (hoth 3 (fun j hj => ne_getD 3 _ (by decide) j hj)).trans rfl
     match i, hi with
     | 0, _ =>
      exact gw_box rfl (wanted_plain rfl) (.tmp 3) rfl (eval_of sl3) (D0.out.keep hb) ⟨_, rfl, Below.refl _ _, rfl⟩
     | 1, _ =>
      obtain ⟨s0, r0, _⟩ := hw 0 (by omega) (by kernel_rfl)
      have e0 : v 0 = vO (e) p0 := r0
      rw [e0] at s0
      refine gw_t rfl (wanted_plain rfl) 63 29 _ _ rfl (fun v w => by go_simp) s0 ?_
      with_reducible refine (IE.out w9 p0 (k0.out.below hb) (HT.out.below hb)).mono ?_
      rintro e w3 ⟨rfl, hb3⟩
      exact ⟨_, rfl, _, rfl, hb3, rfl⟩
     | 2, _ =>
      obtain ⟨s0, r0, _⟩ := hw 1 (by omega) (by kernel_rfl)
      have e0 : v 1 = .bool false := r0
      rw [e0] at s0
      exact gw_move rfl (wanted_plain rfl) 30 _ rfl s0 ⟨_, rfl, Below.refl _ _, rfl⟩
     | 3, _ =>
      obtain ⟨s9, r9, _⟩ := hw 2 (by omega) (by kernel_rfl)
      have e9 : v 2 = .bool false := r9
      rw [e9] at s9
      exact gw_skip rfl (wanted_off rfl rfl rfl s9 rfl) ⟨_, rfl, Below.refl _ _, rfl⟩
     | 4, _ =>
      obtain ⟨s9, r9, _⟩ := hw 2 (by omega) (by kernel_rfl)
      have e9 : v 2 = .bool false := r9
      rw [e9] at s9
      exact gw_skip rfl (wanted_off rfl rfl rfl s9 rfl) ⟨_, rfl, Below.refl _ _, rfl⟩
     | 5, _ =>
      obtain ⟨s9, r9, _⟩ := hw 2 (by omega) (by kernel_rfl)
      have e9 : v 2 = .bool false := r9
      rw [e9] at s9
      exact gw_skip rfl (wanted_off rfl rfl rfl s9 rfl) ⟨_, rfl, Below.refl _ _, rfl⟩
     | 6, _ =>
      obtain ⟨s0, r0, _⟩ := hw 2 (by omega) (by kernel_rfl)
      have e0 : v 2 = .bool false := r0
      rw [e0] at s0
      exact gw_pickF rfl (wanted_plain rfl) 31 _ _ rfl s0 ⟨_, rfl, Below.refl _ _, rfl⟩
     | 7, _ =>
      obtain ⟨s0, r0, _⟩ := hw 6 (by omega) (by kernel_rfl)
      have e0 : v 6 = .bool false := r0
      rw [e0] at s0
      exact gw_move rfl (wanted_plain rfl) 35 _ rfl s0 ⟨_, rfl, Below.refl _ _, rfl⟩
     | 8, _ =>
      obtain ⟨s9, r9, _⟩ := hw 7 (by omega) (by kernel_rfl)
      have e9 : v 7 = .bool false := r9
      rw [e9] at s9
      exact gw_skip rfl (wanted_off rfl rfl rfl s9 rfl) ⟨_, rfl, Below.refl _ _, rfl⟩
     | 9, _ =>
      obtain ⟨s9, r9, _⟩ := hw 7 (by omega) (by kernel_rfl)
      have e9 : v 7 = .bool false := r9
      rw [e9] at s9
      exact gw_skip rfl (wanted_off rfl rfl rfl s9 rfl) ⟨_, rfl, Below.refl _ _, rfl⟩
     | 10, _ =>
      obtain ⟨s0, r0, _⟩ := hw 7 (by omega) (by kernel_rfl)
      have e0 : v 7 = .bool false := r0
      rw [e0] at s0
      exact gw_pickF rfl (wanted_plain rfl) 36 _ _ rfl s0 ⟨_, rfl, Below.refl _ _, rfl⟩
     | 11, _ =>
      obtain ⟨s0, r0, _⟩ := hw 10 (by omega) (by kernel_rfl)
      have e0 : v 10 = .bool false := r0
      rw [e0] at s0
      exact gw_move rfl (wanted_plain rfl) 39 _ rfl s0 ⟨_, rfl, Below.refl _ _, rfl⟩
     | 12, _ =>
      obtain ⟨s9, r9, _⟩ := hw 11 (by omega) (by kernel_rfl)
      have e9 : v 11 = .bool false := r9
      rw [e9] at s9
      exact gw_skip rfl (wanted_off rfl rfl rfl s9 rfl) ⟨_, rfl, Below.refl _ _, rfl⟩
     | 13, _ =>
      obtain ⟨s9, r9, _⟩ := hw 11 (by omega) (by kernel_rfl)
      have e9 : v 11 = .bool false := r9
      rw [e9] at s9
      exact gw_skip rfl (wanted_off rfl rfl rfl s9 rfl) ⟨_, rfl, Below.refl _ _, rfl⟩
     | 14, _ =>
      obtain ⟨s9, r9, _⟩ := hw 11 (by omega) (by kernel_rfl)
      have e9 : v 11 = .bool false := r9
      rw [e9] at s9
      exact gw_skip rfl (wanted_off rfl rfl rfl s9 rfl) ⟨_, rfl, Below.refl _ _, rfl⟩
     | 15, _ =>
      obtain ⟨s0, r0, _⟩ := hw 11 (by omega) (by kernel_rfl)
      have e0 : v 11 = .bool false := r0
      rw [e0] at s0
      exact gw_pickF rfl (wanted_plain rfl) 40 _ _ rfl s0 ⟨_, rfl, Below.refl _ _, rfl⟩
     | 16, _ =>
      obtain ⟨s0, r0, _⟩ := hw 15 (by omega) (by kernel_rfl)
      have e0 : v 15 = .bool false := r0
      rw [e0] at s0
      exact gw_move rfl (wanted_plain rfl) 44 _ rfl s0 ⟨_, rfl, Below.refl _ _, rfl⟩
     | 17, _ =>
      obtain ⟨s9, r9, _⟩ := hw 16 (by omega) (by kernel_rfl)
      have e9 : v 16 = .bool false := r9
      rw [e9] at s9
      exact gw_skip rfl (wanted_off rfl rfl rfl s9 rfl) ⟨_, rfl, Below.refl _ _, rfl⟩
     | 18, _ =>
      obtain ⟨s9, r9, _⟩ := hw 16 (by omega) (by kernel_rfl)
      have e9 : v 16 = .bool false := r9
      rw [e9] at s9
      exact gw_skip rfl (wanted_off rfl rfl rfl s9 rfl) ⟨_, rfl, Below.refl _ _, rfl⟩
     | 19, _ =>
      obtain ⟨s0, r0, _⟩ := hw 16 (by omega) (by kernel_rfl)
      have e0 : v 16 = .bool false := r0
      rw [e0] at s0
      exact gw_pickF rfl (wanted_plain rfl) 45 _ _ rfl s0 ⟨_, rfl, Below.refl _ _, rfl⟩
     | 20, _ =>
      obtain ⟨s0, r0, _⟩ := hw 19 (by omega) (by kernel_rfl)
      have e0 : v 19 = .bool false := r0
      rw [e0] at s0
      exact gw_move rfl (wanted_plain rfl) 48 _ rfl s0 ⟨_, rfl, Below.refl _ _, rfl⟩
     | 21, _ =>
      obtain ⟨s9, r9, _⟩ := hw 20 (by omega) (by kernel_rfl)
      have e9 : v 20 = .bool false := r9
      rw [e9] at s9
      exact gw_skip rfl (wanted_off rfl rfl rfl s9 rfl) ⟨_, rfl, Below.refl _ _, rfl⟩
     | 22, _ =>
      obtain ⟨s9, r9, _⟩ := hw 20 (by omega) (by kernel_rfl)
      have e9 : v 20 = .bool false := r9
      rw [e9] at s9
      exact gw_skip rfl (wanted_off rfl rfl rfl s9 rfl) ⟨_, rfl, Below.refl _ _, rfl⟩
     | 23, _ =>
      obtain ⟨s9, r9, _⟩ := hw 20 (by omega) (by kernel_rfl)
      have e9 : v 20 = .bool false := r9
      rw [e9] at s9
      exact gw_skip rfl (wanted_off rfl rfl rfl s9 rfl) ⟨_, rfl, Below.refl _ _, rfl⟩
     | 24, _ =>
      obtain ⟨s9, r9, _⟩ := hw 20 (by omega) (by kernel_rfl)
      have e9 : v 20 = .bool false := r9
      rw [e9] at s9
      exact gw_skip rfl (wanted_off rfl rfl rfl s9 rfl) ⟨_, rfl, Below.refl _ _, rfl⟩
     | 25, _ =>
      obtain ⟨s0, r0, _⟩ := hw 20 (by omega) (by kernel_rfl)
      have e0 : v 20 = .bool false := r0
      rw [e0] at s0
      exact gw_pickF rfl (wanted_plain rfl) 49 _ _ rfl s0 ⟨_, rfl, Below.refl _ _, rfl⟩
     | k + 26, h => exact absurd h (by omega)
    case done =>
     intro a w9 v lo hi' hdef hsz hoth hb hj hap
     obtain ⟨_, hv25, _, _⟩ := hj 25 (by omega)
     have ha := eq_puts hdef hsz hoth (fun i hi => (hj i hi).1)
     subst ha
     clear hj hoth hdef hsz hap
     change v 25 = _ at hv25
     simp only [puts, List.getD_cons_zero, List.getD_cons_succ, hv25]
     generalize v 0 = v0
     generalize v 1 = v1
     generalize v 2 = v2
     generalize v 3 = v3
     generalize v 4 = v4
     generalize v 5 = v5
     generalize v 6 = v6
     generalize v 7 = v7
     generalize v 8 = v8
     generalize v 9 = v9
     generalize v 10 = v10
     generalize v 11 = v11
     generalize v 12 = v12
     generalize v 13 = v13
     generalize v 14 = v14
     generalize v 15 = v15
     generalize v 16 = v16
     generalize v 17 = v17
     generalize v 18 = v18
     generalize v 19 = v19
     generalize v 20 = v20
     generalize v 21 = v21
     generalize v 22 = v22
     generalize v 23 = v23
     generalize v 24 = v24
     clear hv25
     simp only [Act.put, List.setIfInBounds_toArray, List.set_cons_zero, List.set_cons_succ]
     show wpList _ _ _ [_] _ _
     replace HW := kW HW hb
     replace HT := kT HT hb
     replace k0 := kH k0 hb
     replace k1 := kH k1 hb
     replace k2 := kH k2 hb
     replace D0 := kB D0 hb
     replace D1 := kB D1 hb
     replace D2 := kB D2 hb
     clear hb
     go_wp2_with (first | (with_reducible refine lG (.tmp 3) D0.out ?_) | (with_reducible refine lG (.tmp 4) D1.out ?_) | (with_reducible refine lG (.tmp 5) D2.out ?_))
     go_ret
     exact ⟨rfl, HW.out⟩
  · have IE := hI iE
    have HZ := hI hz
    clear iE hz
    refine wp_region_grow (l := _) 26 (by kernel_rfl) (by kernel_rfl) (fun i => [29, 30, 31, 32, 33, 34, 35, 36, 37, 38, 39, 40, 41, 42, 43, 44, 45, 46, 47, 48, 49, 50, 51, 52, 53, 54].getD i 0) (LR [LV (vO (e) p0), LV (.bool true), LV (.bool true), LV (vO (e) p0), LV (.bool true), LV (.bool false), LV (.bool false), LV (.bool false), LV undef, LV undef, LV (.bool false), LV (.bool false), LV undef, LV undef, LV undef, LV (.bool false), LV (.bool false), LV undef, LV undef, LV (.bool false), LV (.bool false), LV undef, LV undef, LV undef, LV undef, LV (.bool false)]) (LR_mono ⟨mLV _, mLV _, mLV _, mLV _, mLV _, mLV _, mLV _, mLV _, mLV _, mLV _, mLV _, mLV _, mLV _, mLV _, mLV _, mLV _, mLV _, mLV _, mLV _, mLV _, mLV _, mLV _, mLV _, mLV _, mLV _, mLV _, trivial⟩) (by
     intro i j hi hj h
     exact inj_getD [29, 30, 31, 32, 33, 34, 35, 36, 37, 38, 39, 40, 41, 42, 43, 44, 45, 46, 47, 48, 49, 50, 51, 52, 53, 54] (by decide) i j hi hj h) (by
     intro i hi
     exact lt_getD 55 [29, 30, 31, 32, 33, 34, 35, 36, 37, 38, 39, 40, 41, 42, 43, 44, 45, 46, 47, 48, 49, 50, 51, 52, 53, 54] (by decide) i hi) ?step ?done
    case step =>
     intro i hi a w9 v lo hi' hoth hb hw
     have sl3 : a.tmps[3]? = some (.pointer (some ⟨g0, 0, none⟩)) := (hoth 3 (fun j hj => ne_getD 3 _ (by decide) j hj)).trans rfl
     match i, hi with
     | 0, _ =>
      exact gw_box rfl (wanted_plain rfl) (.tmp 3) rfl (eval_of sl3) (D0.out.keep hb) ⟨_, rfl, Below.refl _ _, rfl⟩
     | 1, _ =>
      obtain ⟨s0, r0, _⟩ := hw 0 (by omega) (by kernel_rfl)
      have e0 : v 0 = vO (e) p0 := r0
      rw [e0] at s0
      refine gw_t rfl (wanted_plain rfl) 63 29 _ _ rfl (fun v w => by go_simp) s0 ?_
      with_reducible refine (IE.out w9 p0 (k0.out.below hb) (HT.out.below hb)).mono ?_
      rintro e w3 ⟨rfl, hb3⟩
      exact ⟨_, rfl, _, rfl, hb3, rfl⟩
     | 2, _ =>
      obtain ⟨s0, r0, _⟩ := hw 1 (by omega) (by kernel_rfl)
      have e0 : v 1 = .bool true := r0
      rw [e0] at s0
      exact gw_move rfl (wanted_plain rfl) 30 _ rfl s0 ⟨_, rfl, Below.refl _ _, rfl⟩
     | 3, _ =>
      obtain ⟨s9, r9, _⟩ := hw 2 (by omega) (by kernel_rfl)
      have e9 : v 2 = .bool true := r9
      rw [e9] at s9
      exact gw_box rfl (wanted_on rfl rfl rfl s9 rfl) (.tmp 3) rfl (eval_of sl3) (D0.out.keep hb) ⟨_, rfl, Below.refl _ _, rfl⟩
     | 4, _ =>
      obtain ⟨s9, r9, _⟩ := hw 2 (by omega) (by kernel_rfl)
      have e9 : v 2 = .bool true := r9
      rw [e9] at s9
      obtain ⟨s0, r0, _⟩ := hw 3 (by omega) (by kernel_rfl)
      have e0 : v 3 = vO (e) p0 := r0
      rw [e0] at s0
      refine gw_t rfl (wanted_on rfl rfl rfl s9 rfl) 39 32 _ _ rfl (fun v w => by go_simp) s0 ?_
      with_reducible refine (zeroR e p0 w9 true HZ.out).mono ?_
      rintro e w3 ⟨rfl, hb3⟩
      exact ⟨_, rfl, _, rfl, hb3, rfl⟩
     | 5, _ =>
      obtain ⟨s9, r9, _⟩ := hw 2 (by omega) (by kernel_rfl)
      have e9 : v 2 = .bool true := r9
      rw [e9] at s9
      obtain ⟨s0, r0, _⟩ := hw 4 (by omega) (by kernel_rfl)
      have e0 : v 4 = .bool true := r0
      rw [e0] at s0
      exact gw_not rfl (wanted_on rfl rfl rfl s9 rfl) 33 _ _ rfl s0 ⟨_, rfl, Below.refl _ _, rfl⟩
     | 6, _ =>
      obtain ⟨s0, r0, _⟩ := hw 2 (by omega) (by kernel_rfl)
      have e0 : v 2 = .bool true := r0
      rw [e0] at s0
      obtain ⟨s1, r1, _⟩ := hw 5 (by omega) (by kernel_rfl)
      have e1 : v 5 = .bool false := r1
      rw [e1] at s1
      exact gw_pickT rfl (wanted_plain rfl) 31 34 _ _ rfl s0 s1 ⟨_, rfl, Below.refl _ _, rfl⟩
     | 7, _ =>
      obtain ⟨s0, r0, _⟩ := hw 6 (by omega) (by kernel_rfl)
      have e0 : v 6 = .bool false := r0
      rw [e0] at s0
      exact gw_move rfl (wanted_plain rfl) 35 _ rfl s0 ⟨_, rfl, Below.refl _ _, rfl⟩
     | 8, _ =>
      obtain ⟨s9, r9, _⟩ := hw 7 (by omega) (by kernel_rfl)
      have e9 : v 7 = .bool false := r9
      rw [e9] at s9
      exact gw_skip rfl (wanted_off rfl rfl rfl s9 rfl) ⟨_, rfl, Below.refl _ _, rfl⟩
     | 9, _ =>
      obtain ⟨s9, r9, _⟩ := hw 7 (by omega) (by kernel_rfl)
      have e9 : v 7 = .bool false := r9
      rw [e9] at s9
      exact gw_skip rfl (wanted_off rfl rfl rfl s9 rfl) ⟨_, rfl, Below.refl _ _, rfl⟩
     | 10, _ =>
      obtain ⟨s0, r0, _⟩ := hw 7 (by omega) (by kernel_rfl)
      have e0 : v 7 = .bool false := r0
      rw [e0] at s0
      exact gw_pickF rfl (wanted_plain rfl) 36 _ _ rfl s0 ⟨_, rfl, Below.refl _ _, rfl⟩
     | 11, _ =>
      obtain ⟨s0, r0, _⟩ := hw 10 (by omega) (by kernel_rfl)
      have e0 : v 10 = .bool false := r0
      rw [e0] at s0
      exact gw_move rfl (wanted_plain rfl) 39 _ rfl s0 ⟨_, rfl, Below.refl _ _, rfl⟩
     | 12, _ =>
      obtain ⟨s9, r9, _⟩ := hw 11 (by omega) (by kernel_rfl)
      have e9 : v 11 = .bool false := r9
      rw [e9] at s9
      exact gw_skip rfl (wanted_off rfl rfl rfl s9 rfl) ⟨_, rfl, Below.refl _ _, rfl⟩
     | 13, _ =>
      obtain ⟨s9, r9, _⟩ := hw 11 (by omega) (by kernel_rfl)
      have e9 : v 11 = .bool false := r9
      rw [e9] at s9
      exact gw_skip rfl (wanted_off rfl rfl rfl s9 rfl) ⟨_, rfl, Below.refl _ _, rfl⟩
     | 14, _ =>
      obtain ⟨s9, r9, _⟩ := hw 11 (by omega) (by kernel_rfl)
      have e9 : v 11 = .bool false := r9
      rw [e9] at s9
      exact gw_skip rfl (wanted_off rfl rfl rfl s9 rfl) ⟨_, rfl, Below.refl _ _, rfl⟩
     | 15, _ =>
      obtain ⟨s0, r0, _⟩ := hw 11 (by omega) (by kernel_rfl)
      have e0 : v 11 = .bool false := r0
      rw [e0] at s0
      exact gw_pickF rfl (wanted_plain rfl) 40 _ _ rfl s0 ⟨_, rfl, Below.refl _ _, rfl⟩
     | 16, _ =>
      obtain ⟨s0, r0, _⟩ := hw 15 (by omega) (by kernel_rfl)
      have e0 : v 15 = .bool false := r0
      rw [e0] at s0
      exact gw_move rfl (wanted_plain rfl) 44 _ rfl s0 ⟨_, rfl, Below.refl _ _, rfl⟩
     | 17, _ =>
      obtain ⟨s9, r9, _⟩ := hw 16 (by omega) (by kernel_rfl)
      have e9 : v 16 = .bool false := r9
      rw [e9] at s9
      exact gw_skip rfl (wanted_off rfl rfl rfl s9 rfl) ⟨_, rfl, Below.refl _ _, rfl⟩
     | 18, _ =>
      obtain ⟨s9, r9, _⟩ := hw 16 (by omega) (by kernel_rfl)
      have e9 : v 16 = .bool false := r9
      rw [e9] at s9
      exact gw_skip rfl (wanted_off rfl rfl rfl s9 rfl) ⟨_, rfl, Below.refl _ _, rfl⟩
     | 19, _ =>
      obtain ⟨s0, r0, _⟩ := hw 16 (by omega) (by kernel_rfl)
      have e0 : v 16 = .bool false := r0
      rw [e0] at s0
      exact gw_pickF rfl (wanted_plain rfl) 45 _ _ rfl s0 ⟨_, rfl, Below.refl _ _, rfl⟩
     | 20, _ =>
      obtain ⟨s0, r0, _⟩ := hw 19 (by omega) (by kernel_rfl)
      have e0 : v 19 = .bool false := r0
      rw [e0] at s0
      exact gw_move rfl (wanted_plain rfl) 48 _ rfl s0 ⟨_, rfl, Below.refl _ _, rfl⟩
     | 21, _ =>
      obtain ⟨s9, r9, _⟩ := hw 20 (by omega) (by kernel_rfl)
      have e9 : v 20 = .bool false := r9
      rw [e9] at s9
      exact gw_skip rfl (wanted_off rfl rfl rfl s9 rfl) ⟨_, rfl, Below.refl _ _, rfl⟩
     | 22, _ =>
      obtain ⟨s9, r9, _⟩ := hw 20 (by omega) (by kernel_rfl)
      have e9 : v 20 = .bool false := r9
      rw [e9] at s9
      exact gw_skip rfl (wanted_off rfl rfl rfl s9 rfl) ⟨_, rfl, Below.refl _ _, rfl⟩
     | 23, _ =>
      obtain ⟨s9, r9, _⟩ := hw 20 (by omega) (by kernel_rfl)
      have e9 : v 20 = .bool false := r9
      rw [e9] at s9
      exact gw_skip rfl (wanted_off rfl rfl rfl s9 rfl) ⟨_, rfl, Below.refl _ _, rfl⟩
     | 24, _ =>
      obtain ⟨s9, r9, _⟩ := hw 20 (by omega) (by kernel_rfl)
      have e9 : v 20 = .bool false := r9
      rw [e9] at s9
      exact gw_skip rfl (wanted_off rfl rfl rfl s9 rfl) ⟨_, rfl, Below.refl _ _, rfl⟩
     | 25, _ =>
      obtain ⟨s0, r0, _⟩ := hw 20 (by omega) (by kernel_rfl)
      have e0 : v 20 = .bool false := r0
      rw [e0] at s0
      exact gw_pickF rfl (wanted_plain rfl) 49 _ _ rfl s0 ⟨_, rfl, Below.refl _ _, rfl⟩
     | k + 26, h => exact absurd h (by omega)
    case done =>
     intro a w9 v lo hi' hdef hsz hoth hb hj hap
     obtain ⟨_, hv25, _, _⟩ := hj 25 (by omega)
     have ha := eq_puts hdef hsz hoth (fun i hi => (hj i hi).1)
     subst ha
     clear hj hoth hdef hsz hap
     change v 25 = _ at hv25
     simp only [puts, List.getD_cons_zero, List.getD_cons_succ, hv25]
     generalize v 0 = v0
     generalize v 1 = v1
     generalize v 2 = v2
     generalize v 3 = v3
     generalize v 4 = v4
     generalize v 5 = v5
     generalize v 6 = v6
     generalize v 7 = v7
     generalize v 8 = v8
     generalize v 9 = v9
     generalize v 10 = v10
     generalize v 11 = v11
     generalize v 12 = v12
     generalize v 13 = v13
     generalize v 14 = v14
     generalize v 15 = v15
     generalize v 16 = v16
     generalize v 17 = v17
     generalize v 18 = v18
     generalize v 19 = v19
     generalize v 20 = v20
     generalize v 21 = v21
     generalize v 22 = v22
     generalize v 23 = v23
     generalize v 24 = v24
     clear hv25
     simp only [Act.put, List.setIfInBounds_toArray, List.set_cons_zero, List.set_cons_succ]
     show wpList _ _ _ [_] _ _
     replace HW := kW HW hb
     replace HT := kT HT hb
     replace k0 := kH k0 hb
     replace k1 := kH k1 hb
     replace k2 := kH k2 hb
     replace D0 := kB D0 hb
     replace D1 := kB D1 hb
     replace D2 := kB D2 hb
     clear hb
     go_wp2_with (first | (with_reducible refine lG (.tmp 3) D0.out ?_) | (with_reducible refine lG (.tmp 4) D1.out ?_) | (with_reducible refine lG (.tmp 5) D2.out ?_))
     go_ret
     exact ⟨rfl, HW.out⟩
  · have IE := hI iE
    have HZ := hI hz
    have NC := hI nC
    clear iE hz nC
    refine wp_region_grow (l := _) 26 (by kernel_rfl) (by kernel_rfl) (fun i => [29, 30, 31, 32, 33, 34, 35, 36, 37, 38, 39, 40, 41, 42, 43, 44, 45, 46, 47, 48, 49, 50, 51, 52, 53, 54].getD i 0) (LR [LV (vO (e) p0), LV (.bool true), LV (.bool true), LV (vO (e) p0), LV (.bool false), LV (.bool true), LV (.bool true), LV (.bool true), LV (vO (c) p1), LV (.bool false), LV (.bool false), LV (.bool false), LV undef, LV undef, LV undef, LV (.bool false), LV (.bool false), LV undef, LV undef, LV (.bool false), LV (.bool false), LV undef, LV undef, LV undef, LV undef, LV (.bool false)]) (LR_mono ⟨mLV _, mLV _, mLV _, mLV _, mLV _, mLV _, mLV _, mLV _, mLV _, mLV _, mLV _, mLV _, mLV _, mLV _, mLV _, mLV _, mLV _, mLV _, mLV _, mLV _, mLV _, mLV _, mLV _, mLV _, mLV _, mLV _, trivial⟩) (by
     intro i j hi hj h
     exact inj_getD [29, 30, 31, 32, 33, 34, 35, 36, 37, 38, 39, 40, 41, 42, 43, 44, 45, 46, 47, 48, 49, 50, 51, 52, 53, 54] (by decide) i j hi hj h) (by
     intro i hi
     exact lt_getD 55 [29, 30, 31, 32, 33, 34, 35, 36, 37, 38, 39, 40, 41, 42, 43, 44, 45, 46, 47, 48, 49, 50, 51, 52, 53, 54] (by decide) i hi) ?step ?done
    case step =>
     intro i hi a w9 v lo hi' hoth hb hw
     have sl3 : a.tmps[3]? = some (.pointer (some ⟨g0, 0, none⟩)) := (hoth 3 (fun j hj => ne_getD 3 _ (by decide) j hj)).trans rfl
     have sl4 : a.tmps[4]? = some (.pointer (some ⟨g1, 0, none⟩)) := (hoth 4 (fun j hj => ne_getD 4 _ (by decide) j hj)).trans rfl
     match i, hi with
     | 0, _ =>
      exact gw_box rfl (wanted_plain rfl) (.tmp 3) rfl (eval_of sl3) (D0.out.keep hb) ⟨_, rfl, Below.refl _ _, rfl⟩
     | 1, _ =>
      obtain ⟨s0, r0, _⟩ := hw 0 (by omega) (by kernel_rfl)
      have e0 : v 0 = vO (e) p0 := r0
      rw [e0] at s0
      refine gw_t rfl (wanted_plain rfl) 63 29 _ _ rfl (fun v w => by go_simp) s0 ?_
      with_reducible refine (IE.out w9 p0 (k0.out.below hb) (HT.out.below hb)).mono ?_
      rintro e w3 ⟨rfl, hb3⟩
      exact ⟨_, rfl, _, rfl, hb3, rfl⟩
     | 2, _ =>
      obtain ⟨s0, r0, _⟩ := hw 1 (by omega) (by kernel_rfl)
      have e0 : v 1 = .bool true := r0
      rw [e0] at s0
      exact gw_move rfl (wanted_plain rfl) 30 _ rfl s0 ⟨_, rfl, Below.refl _ _, rfl⟩
     | 3, _ =>
      obtain ⟨s9, r9, _⟩ := hw 2 (by omega) (by kernel_rfl)
      have e9 : v 2 = .bool true := r9
      rw [e9] at s9
      exact gw_box rfl (wanted_on rfl rfl rfl s9 rfl) (.tmp 3) rfl (eval_of sl3) (D0.out.keep hb) ⟨_, rfl, Below.refl _ _, rfl⟩
     | 4, _ =>
      obtain ⟨s9, r9, _⟩ := hw 2 (by omega) (by kernel_rfl)
      have e9 : v 2 = .bool true := r9
      rw [e9] at s9
      obtain ⟨s0, r0, _⟩ := hw 3 (by omega) (by kernel_rfl)
      have e0 : v 3 = vO (e) p0 := r0
      rw [e0] at s0
      refine gw_t rfl (wanted_on rfl rfl rfl s9 rfl) 39 32 _ _ rfl (fun v w => by go_simp) s0 ?_
      with_reducible refine (zeroR e p0 w9 false HZ.out).mono ?_
      rintro e w3 ⟨rfl, hb3⟩
      exact ⟨_, rfl, _, rfl, hb3, rfl⟩
     | 5, _ =>
      obtain ⟨s9, r9, _⟩ := hw 2 (by omega) (by kernel_rfl)
      have e9 : v 2 = .bool true := r9
      rw [e9] at s9
      obtain ⟨s0, r0, _⟩ := hw 4 (by omega) (by kernel_rfl)
      have e0 : v 4 = .bool false := r0
      rw [e0] at s0
      exact gw_not rfl (wanted_on rfl rfl rfl s9 rfl) 33 _ _ rfl s0 ⟨_, rfl, Below.refl _ _, rfl⟩
     | 6, _ =>
      obtain ⟨s0, r0, _⟩ := hw 2 (by omega) (by kernel_rfl)
      have e0 : v 2 = .bool true := r0
      rw [e0] at s0
      obtain ⟨s1, r1, _⟩ := hw 5 (by omega) (by kernel_rfl)
      have e1 : v 5 = .bool true := r1
      rw [e1] at s1
      exact gw_pickT rfl (wanted_plain rfl) 31 34 _ _ rfl s0 s1 ⟨_, rfl, Below.refl _ _, rfl⟩
     | 7, _ =>
      obtain ⟨s0, r0, _⟩ := hw 6 (by omega) (by kernel_rfl)
      have e0 : v 6 = .bool true := r0
      rw [e0] at s0
      exact gw_move rfl (wanted_plain rfl) 35 _ rfl s0 ⟨_, rfl, Below.refl _ _, rfl⟩
     | 8, _ =>
      obtain ⟨s9, r9, _⟩ := hw 7 (by omega) (by kernel_rfl)
      have e9 : v 7 = .bool true := r9
      rw [e9] at s9
      exact gw_box rfl (wanted_on rfl rfl rfl s9 rfl) (.tmp 4) rfl (eval_of sl4) (D1.out.keep hb) ⟨_, rfl, Below.refl _ _, rfl⟩
     | 9, _ =>
      obtain ⟨s9, r9, _⟩ := hw 7 (by omega) (by kernel_rfl)
      have e9 : v 7 = .bool true := r9
      rw [e9] at s9
      obtain ⟨s0, r0, _⟩ := hw 8 (by omega) (by kernel_rfl)
      have e0 : v 8 = vO (c) p1 := r0
      rw [e0] at s0
      refine gw_t rfl (wanted_on rfl rfl rfl s9 rfl) 85 37 _ _ rfl (fun v w => by go_simp) s0 ?_
      with_reducible refine (NC.out w9 p1 (k1.out.below hb)).mono ?_
      rintro e w3 ⟨rfl, hb3⟩
      exact ⟨_, rfl, _, rfl, hb3, rfl⟩
     | 10, _ =>
      obtain ⟨s0, r0, _⟩ := hw 7 (by omega) (by kernel_rfl)
      have e0 : v 7 = .bool true := r0
      rw [e0] at s0
      obtain ⟨s1, r1, _⟩ := hw 9 (by omega) (by kernel_rfl)
      have e1 : v 9 = .bool false := r1
      rw [e1] at s1
      exact gw_pickT rfl (wanted_plain rfl) 36 38 _ _ rfl s0 s1 ⟨_, rfl, Below.refl _ _, rfl⟩
     | 11, _ =>
      obtain ⟨s0, r0, _⟩ := hw 10 (by omega) (by kernel_rfl)
      have e0 : v 10 = .bool false := r0
      rw [e0] at s0
      exact gw_move rfl (wanted_plain rfl) 39 _ rfl s0 ⟨_, rfl, Below.refl _ _, rfl⟩
     | 12, _ =>
      obtain ⟨s9, r9, _⟩ := hw 11 (by omega) (by kernel_rfl)
      have e9 : v 11 = .bool false := r9
      rw [e9] at s9
      exact gw_skip rfl (wanted_off rfl rfl rfl s9 rfl) ⟨_, rfl, Below.refl _ _, rfl⟩
     | 13, _ =>
      obtain ⟨s9, r9, _⟩ := hw 11 (by omega) (by kernel_rfl)
      have e9 : v 11 = .bool false := r9
      rw [e9] at s9
      exact gw_skip rfl (wanted_off rfl rfl rfl s9 rfl) ⟨_, rfl, Below.refl _ _, rfl⟩
     | 14, _ =>
      obtain ⟨s9, r9, _⟩ := hw 11 (by omega) (by kernel_rfl)
      have e9 : v 11 = .bool false := r9
      rw [e9] at s9
      exact gw_skip rfl (wanted_off rfl rfl rfl s9 rfl) ⟨_, rfl, Below.refl _ _, rfl⟩
     | 15, _ =>
      obtain ⟨s0, r0, _⟩ := hw 11 (by omega) (by kernel_rfl)
      have e0 : v 11 = .bool false := r0
      rw [e0] at s0
      exact gw_pickF rfl (wanted_plain rfl) 40 _ _ rfl s0 ⟨_, rfl, Below.refl _ _, rfl⟩
     | 16, _ =>
      obtain ⟨s0, r0, _⟩ := hw 15 (by omega) (by kernel_rfl)
      have e0 : v 15 = .bool false := r0
      rw [e0] at s0
      exact gw_move rfl (wanted_plain rfl) 44 _ rfl s0 ⟨_, rfl, Below.refl _ _, rfl⟩
     | 17, _ =>
      obtain ⟨s9, r9, _⟩ := hw 16 (by omega) (by kernel_rfl)
      have e9 : v 16 = .bool false := r9
      rw [e9] at s9
      exact gw_skip rfl (wanted_off rfl rfl rfl s9 rfl) ⟨_, rfl, Below.refl _ _, rfl⟩
     | 18, _ =>
      obtain ⟨s9, r9, _⟩ := hw 16 (by omega) (by kernel_rfl)
      have e9 : v 16 = .bool false := r9
      rw [e9] at s9
      exact gw_skip rfl (wanted_off rfl rfl rfl s9 rfl) ⟨_, rfl, Below.refl _ _, rfl⟩
     | 19, _ =>
      obtain ⟨s0, r0, _⟩ := hw 16 (by omega) (by kernel_rfl)
      have e0 : v 16 = .bool false := r0
      rw [e0] at s0
      exact gw_pickF rfl (wanted_plain rfl) 45 _ _ rfl s0 ⟨_, rfl, Below.refl _ _, rfl⟩
     | 20, _ =>
      obtain ⟨s0, r0, _⟩ := hw 19 (by omega) (by kernel_rfl)
      have e0 : v 19 = .bool false := r0
      rw [e0] at s0
      exact gw_move rfl (wanted_plain rfl) 48 _ rfl s0 ⟨_, rfl, Below.refl _ _, rfl⟩
     | 21, _ =>
      obtain ⟨s9, r9, _⟩ := hw 20 (by omega) (by kernel_rfl)
      have e9 : v 20 = .bool false := r9
      rw [e9] at s9
      exact gw_skip rfl (wanted_off rfl rfl rfl s9 rfl) ⟨_, rfl, Below.refl _ _, rfl⟩
     | 22, _ =>
      obtain ⟨s9, r9, _⟩ := hw 20 (by omega) (by kernel_rfl)
      have e9 : v 20 = .bool false := r9
      rw [e9] at s9
      exact gw_skip rfl (wanted_off rfl rfl rfl s9 rfl) ⟨_, rfl, Below.refl _ _, rfl⟩
     | 23, _ =>
      obtain ⟨s9, r9, _⟩ := hw 20 (by omega) (by kernel_rfl)
      have e9 : v 20 = .bool false := r9
      rw [e9] at s9
      exact gw_skip rfl (wanted_off rfl rfl rfl s9 rfl) ⟨_, rfl, Below.refl _ _, rfl⟩
     | 24, _ =>
      obtain ⟨s9, r9, _⟩ := hw 20 (by omega) (by kernel_rfl)
      have e9 : v 20 = .bool false := r9
      rw [e9] at s9
      exact gw_skip rfl (wanted_off rfl rfl rfl s9 rfl) ⟨_, rfl, Below.refl _ _, rfl⟩
     | 25, _ =>
      obtain ⟨s0, r0, _⟩ := hw 20 (by omega) (by kernel_rfl)
      have e0 : v 20 = .bool false := r0
      rw [e0] at s0
      exact gw_pickF rfl (wanted_plain rfl) 49 _ _ rfl s0 ⟨_, rfl, Below.refl _ _, rfl⟩
     | k + 26, h => exact absurd h (by omega)
    case done =>
     intro a w9 v lo hi' hdef hsz hoth hb hj hap
     obtain ⟨_, hv25, _, _⟩ := hj 25 (by omega)
     have ha := eq_puts hdef hsz hoth (fun i hi => (hj i hi).1)
     subst ha
     clear hj hoth hdef hsz hap
     change v 25 = _ at hv25
     simp only [puts, List.getD_cons_zero, List.getD_cons_succ, hv25]
     generalize v 0 = v0
     generalize v 1 = v1
     generalize v 2 = v2
     generalize v 3 = v3
     generalize v 4 = v4
     generalize v 5 = v5
     generalize v 6 = v6
     generalize v 7 = v7
     generalize v 8 = v8
     generalize v 9 = v9
     generalize v 10 = v10
     generalize v 11 = v11
     generalize v 12 = v12
     generalize v 13 = v13
     generalize v 14 = v14
     generalize v 15 = v15
     generalize v 16 = v16
     generalize v 17 = v17
     generalize v 18 = v18
     generalize v 19 = v19
     generalize v 20 = v20
     generalize v 21 = v21
     generalize v 22 = v22
     generalize v 23 = v23
     generalize v 24 = v24
     clear hv25
     simp only [Act.put, List.setIfInBounds_toArray, List.set_cons_zero, List.set_cons_succ]
     show wpList _ _ _ [_] _ _
     replace HW := kW HW hb
     replace HT := kT HT hb
     replace k0 := kH k0 hb
     replace k1 := kH k1 hb
     replace k2 := kH k2 hb
     replace D0 := kB D0 hb
     replace D1 := kB D1 hb
     replace D2 := kB D2 hb
     clear hb
     go_wp2_with (first | (with_reducible refine lG (.tmp 3) D0.out ?_) | (with_reducible refine lG (.tmp 4) D1.out ?_) | (with_reducible refine lG (.tmp 5) D2.out ?_))
     go_ret
     exact ⟨rfl, HW.out⟩
  · have IE := hI iE
    have HZ := hI hz
    have NC := hI nC
    have HZC := hI hzc
    clear iE hz nC hzc
    refine wp_region_grow (l := _) 26 (by kernel_rfl) (by kernel_rfl) (fun i => [29, 30, 31, 32, 33, 34, 35, 36, 37, 38, 39, 40, 41, 42, 43, 44, 45, 46, 47, 48, 49, 50, 51, 52, 53, 54].getD i 0) (LR [LV (vO (e) p0), LV (.bool true), LV (.bool true), LV (vO (e) p0), LV (.bool false), LV (.bool true), LV (.bool true), LV (.bool true), LV (vO (c) p1), LV (.bool true), LV (.bool true), LV (.bool true), LV (vO (c) p1), LV (.bool true), LV (.bool false), LV (.bool false), LV (.bool false), LV undef, LV undef, LV (.bool false), LV (.bool false), LV undef, LV undef, LV undef, LV undef, LV (.bool false)]) (LR_mono ⟨mLV _, mLV _, mLV _, mLV _, mLV _, mLV _, mLV _, mLV _, mLV _, mLV _, mLV _, mLV _, mLV _, mLV _, mLV _, mLV _, mLV _, mLV _, mLV _, mLV _, mLV _, mLV _, mLV _, mLV _, mLV _, mLV _, trivial⟩) (by
     intro i j hi hj h
     exact inj_getD [29, 30, 31, 32, 33, 34, 35, 36, 37, 38, 39, 40, 41, 42, 43, 44, 45, 46, 47, 48, 49, 50, 51, 52, 53, 54] (by decide) i j hi hj h) (by
     intro i hi
     exact lt_getD 55 [29, 30, 31, 32, 33, 34, 35, 36, 37, 38, 39, 40, 41, 42, 43, 44, 45, 46, 47, 48, 49, 50, 51, 52, 53, 54] (by decide) i hi) ?step ?done
    case step =>
     intro i hi a w9 v lo hi' hoth hb hw
     have sl3 : a.tmps[3]? = some (.pointer (some ⟨g0, 0, none⟩)) := (hoth 3 (fun j hj => ne_getD 3 _ (by decide) j hj)).trans rfl
     have sl4 : a.tmps[4]? = some (.pointer (some ⟨g1, 0, none⟩)) := (hoth 4 (fun j hj => ne_getD 4 _ (by decide) j hj)).trans rfl
     match i, hi with
     | 0, _ =>
      exact gw_box rfl (wanted_plain rfl) (.tmp 3) rfl (eval_of sl3) (D0.out.keep hb) ⟨_, rfl, Below.refl _ _, rfl⟩
     | 1, _ =>
      obtain ⟨s0, r0, _⟩ := hw 0 (by omega) (by kernel_rfl)
      have e0 : v 0 = vO (e) p0 := r0
      rw [e0] at s0
      refine gw_t rfl (wanted_plain rfl) 63 29 _ _ rfl (fun v w => by go_simp) s0 ?_
      with_reducible refine (IE.out w9 p0 (k0.out.below hb) (HT.out.below hb)).mono ?_
      rintro e w3 ⟨rfl, hb3⟩
      exact ⟨_, rfl, _, rfl, hb3, rfl⟩
     | 2, _ =>
      obtain ⟨s0, r0, _⟩ := hw 1 (by omega) (by kernel_rfl)
      have e0 : v 1 = .bool true := r0
      rw [e0] at s0
      exact gw_move rfl (wanted_plain rfl) 30 _ rfl s0 ⟨_, rfl, Below.refl _ _, rfl⟩
     | 3, _ =>
      obtain ⟨s9, r9, _⟩ := hw 2 (by omega) (by kernel_rfl)
      have e9 : v 2 = .bool true := r9
      rw [e9] at s9
      exact gw_box rfl (wanted_on rfl rfl rfl s9 rfl) (.tmp 3) rfl (eval_of sl3) (D0.out.keep hb) ⟨_, rfl, Below.refl _ _, rfl⟩
     | 4, _ =>
      obtain ⟨s9, r9, _⟩ := hw 2 (by omega) (by kernel_rfl)
      have e9 : v 2 = .bool true := r9
      rw [e9] at s9
      obtain ⟨s0, r0, _⟩ := hw 3 (by omega) (by kernel_rfl)
      have e0 : v 3 = vO (e) p0 := r0
      rw [e0] at s0
      refine gw_t rfl (wanted_on rfl rfl rfl s9 rfl) 39 32 _ _ rfl (fun v w => by go_simp) s0 ?_
      with_reducible refine (zeroR e p0 w9 false HZ.out).mono ?_
      rintro e w3 ⟨rfl, hb3⟩
      exact ⟨_, rfl, _, rfl, hb3, rfl⟩
     | 5, _ =>
      obtain ⟨s9, r9, _⟩ := hw 2 (by omega) (by kernel_rfl)
      have e9 : v 2 = .bool true := r9
      rw [e9] at s9
      obtain ⟨s0, r0, _⟩ := hw 4 (by omega) (by kernel_rfl)
      have e0 : v 4 = .bool false := r0
      rw [e0] at s0
      exact gw_not rfl (wanted_on rfl rfl rfl s9 rfl) 33 _ _ rfl s0 ⟨_, rfl, Below.refl _ _, rfl⟩
     | 6, _ =>
      obtain ⟨s0, r0, _⟩ := hw 2 (by omega) (by kernel_rfl)
      have e0 : v 2 = .bool true := r0
      rw [e0] at s0
      obtain ⟨s1, r1, _⟩ := hw 5 (by omega) (by kernel_rfl)
      have e1 : v 5 = .bool true := r1
      rw [e1] at s1
      exact gw_pickT rfl (wanted_plain rfl) 31 34 _ _ rfl s0 s1 ⟨_, rfl, Below.refl _ _, rfl⟩
     | 7, _ =>
      obtain ⟨s0, r0, _⟩ := hw 6 (by omega) (by kernel_rfl)
      have e0 : v 6 = .bool true := r0
      rw [e0] at s0
      exact gw_move rfl (wanted_plain rfl) 35 _ rfl s0 ⟨_, rfl, Below.refl _ _, rfl⟩
     | 8, _ =>
      obtain ⟨s9, r9, _⟩ := hw 7 (by omega) (by kernel_rfl)
      have e9 : v 7 = .bool true := r9
      rw [e9] at s9
      exact gw_box rfl (wanted_on rfl rfl rfl s9 rfl) (.tmp 4) rfl (eval_of sl4) (D1.out.keep hb) ⟨_, rfl, Below.refl _ _, rfl⟩
     | 9, _ =>
      obtain ⟨s9, r9, _⟩ := hw 7 (by omega) (by kernel_rfl)
      have e9 : v 7 = .bool true := r9
      rw [e9] at s9
      obtain ⟨s0, r0, _⟩ := hw 8 (by omega) (by kernel_rfl)
      have e0 : v 8 = vO (c) p1 := r0
      rw [e0] at s0
      refine gw_t rfl (wanted_on rfl rfl rfl s9 rfl) 85 37 _ _ rfl (fun v w => by go_simp) s0 ?_
      with_reducible refine (NC.out w9 p1 (k1.out.below hb)).mono ?_
      rintro e w3 ⟨rfl, hb3⟩
      exact ⟨_, rfl, _, rfl, hb3, rfl⟩
     | 10, _ =>
      obtain ⟨s0, r0, _⟩ := hw 7 (by omega) (by kernel_rfl)
      have e0 : v 7 = .bool true := r0
      rw [e0] at s0
      obtain ⟨s1, r1, _⟩ := hw 9 (by omega) (by kernel_rfl)
      have e1 : v 9 = .bool true := r1
      rw [e1] at s1
      exact gw_pickT rfl (wanted_plain rfl) 36 38 _ _ rfl s0 s1 ⟨_, rfl, Below.refl _ _, rfl⟩
     | 11, _ =>
      obtain ⟨s0, r0, _⟩ := hw 10 (by omega) (by kernel_rfl)
      have e0 : v 10 = .bool true := r0
      rw [e0] at s0
      exact gw_move rfl (wanted_plain rfl) 39 _ rfl s0 ⟨_, rfl, Below.refl _ _, rfl⟩
     | 12, _ =>
      obtain ⟨s9, r9, _⟩ := hw 11 (by omega) (by kernel_rfl)
      have e9 : v 11 = .bool true := r9
      rw [e9] at s9
      exact gw_box rfl (wanted_on rfl rfl rfl s9 rfl) (.tmp 4) rfl (eval_of sl4) (D1.out.keep hb) ⟨_, rfl, Below.refl _ _, rfl⟩
     | 13, _ =>
      obtain ⟨s9, r9, _⟩ := hw 11 (by omega) (by kernel_rfl)
      have e9 : v 11 = .bool true := r9
      rw [e9] at s9
      obtain ⟨s0, r0, _⟩ := hw 12 (by omega) (by kernel_rfl)
      have e0 : v 12 = vO (c) p1 := r0
      rw [e0] at s0
      refine gw_t rfl (wanted_on rfl rfl rfl s9 rfl) 39 41 _ _ rfl (fun v w => by go_simp) s0 ?_
      with_reducible refine (zeroR c p1 w9 true HZC.out).mono ?_
      rintro e w3 ⟨rfl, hb3⟩
      exact ⟨_, rfl, _, rfl, hb3, rfl⟩
     | 14, _ =>
      obtain ⟨s9, r9, _⟩ := hw 11 (by omega) (by kernel_rfl)
      have e9 : v 11 = .bool true := r9
      rw [e9] at s9
      obtain ⟨s0, r0, _⟩ := hw 13 (by omega) (by kernel_rfl)
      have e0 : v 13 = .bool true := r0
      rw [e0] at s0
      exact gw_not rfl (wanted_on rfl rfl rfl s9 rfl) 42 _ _ rfl s0 ⟨_, rfl, Below.refl _ _, rfl⟩
     | 15, _ =>
      obtain ⟨s0, r0, _⟩ := hw 11 (by omega) (by kernel_rfl)
      have e0 : v 11 = .bool true := r0
      rw [e0] at s0
      obtain ⟨s1, r1, _⟩ := hw 14 (by omega) (by kernel_rfl)
      have e1 : v 14 = .bool false := r1
      rw [e1] at s1
      exact gw_pickT rfl (wanted_plain rfl) 40 43 _ _ rfl s0 s1 ⟨_, rfl, Below.refl _ _, rfl⟩
     | 16, _ =>
      obtain ⟨s0, r0, _⟩ := hw 15 (by omega) (by kernel_rfl)
      have e0 : v 15 = .bool false := r0
      rw [e0] at s0
      exact gw_move rfl (wanted_plain rfl) 44 _ rfl s0 ⟨_, rfl, Below.refl _ _, rfl⟩
     | 17, _ =>
      obtain ⟨s9, r9, _⟩ := hw 16 (by omega) (by kernel_rfl)
      have e9 : v 16 = .bool false := r9
      rw [e9] at s9
      exact gw_skip rfl (wanted_off rfl rfl rfl s9 rfl) ⟨_, rfl, Below.refl _ _, rfl⟩
     | 18, _ =>
      obtain ⟨s9, r9, _⟩ := hw 16 (by omega) (by kernel_rfl)
      have e9 : v 16 = .bool false := r9
      rw [e9] at s9
      exact gw_skip rfl (wanted_off rfl rfl rfl s9 rfl) ⟨_, rfl, Below.refl _ _, rfl⟩
     | 19, _ =>
      obtain ⟨s0, r0, _⟩ := hw 16 (by omega) (by kernel_rfl)
      have e0 : v 16 = .bool false := r0
      rw [e0] at s0
      exact gw_pickF rfl (wanted_plain rfl) 45 _ _ rfl s0 ⟨_, rfl, Below.refl _ _, rfl⟩
     | 20, _ =>
      obtain ⟨s0, r0, _⟩ := hw 19 (by omega) (by kernel_rfl)
      have e0 : v 19 = .bool false := r0
      rw [e0] at s0
      exact gw_move rfl (wanted_plain rfl) 48 _ rfl s0 ⟨_, rfl, Below.refl _ _, rfl⟩
     | 21, _ =>
      obtain ⟨s9, r9, _⟩ := hw 20 (by omega) (by kernel_rfl)
      have e9 : v 20 = .bool false := r9
      rw [e9] at s9
      exact gw_skip rfl (wanted_off rfl rfl rfl s9 rfl) ⟨_, rfl, Below.refl _ _, rfl⟩
     | 22, _ =>
      obtain ⟨s9, r9, _⟩ := hw 20 (by omega) (by kernel_rfl)
      have e9 : v 20 = .bool false := r9
      rw [e9] at s9
      exact gw_skip rfl (wanted_off rfl rfl rfl s9 rfl) ⟨_, rfl, Below.refl _ _, rfl⟩
     | 23, _ =>
      obtain ⟨s9, r9, _⟩ := hw 20 (by omega) (by kernel_rfl)
      have e9 : v 20 = .bool false := r9
      rw [e9] at s9
      exact gw_skip rfl (wanted_off rfl rfl rfl s9 rfl) ⟨_, rfl, Below.refl _ _, rfl⟩
     | 24, _ =>
      obtain ⟨s9, r9, _⟩ := hw 20 (by omega) (by kernel_rfl)
      have e9 : v 20 = .bool false := r9
      rw [e9] at s9
      exact gw_skip rfl (wanted_off rfl rfl rfl s9 rfl) ⟨_, rfl, Below.refl _ _, rfl⟩
     | 25, _ =>
      obtain ⟨s0, r0, _⟩ := hw 20 (by omega) (by kernel_rfl)
      have e0 : v 20 = .bool false := r0
      rw [e0] at s0
      exact gw_pickF rfl (wanted_plain rfl) 49 _ _ rfl s0 ⟨_, rfl, Below.refl _ _, rfl⟩
     | k + 26, h => exact absurd h (by omega)
    case done =>
     intro a w9 v lo hi' hdef hsz hoth hb hj hap
     obtain ⟨_, hv25, _, _⟩ := hj 25 (by omega)
     have ha := eq_puts hdef hsz hoth (fun i hi => (hj i hi).1)
     subst ha
     clear hj hoth hdef hsz hap
     change v 25 = _ at hv25
     simp only [puts, List.getD_cons_zero, List.getD_cons_succ, hv25]
     generalize v 0 = v0
     generalize v 1 = v1
     generalize v 2 = v2
     generalize v 3 = v3
     generalize v 4 = v4
     generalize v 5 = v5
     generalize v 6 = v6
     generalize v 7 = v7
     generalize v 8 = v8
     generalize v 9 = v9
     generalize v 10 = v10
     generalize v 11 = v11
     generalize v 12 = v12
     generalize v 13 = v13
     generalize v 14 = v14
     generalize v 15 = v15
     generalize v 16 = v16
     generalize v 17 = v17
     generalize v 18 = v18
     generalize v 19 = v19
     generalize v 20 = v20
     generalize v 21 = v21
     generalize v 22 = v22
     generalize v 23 = v23
     generalize v 24 = v24
     clear hv25
     simp only [Act.put, List.setIfInBounds_toArray, List.set_cons_zero, List.set_cons_succ]
     show wpList _ _ _ [_] _ _
     replace HW := kW HW hb
     replace HT := kT HT hb
     replace k0 := kH k0 hb
     replace k1 := kH k1 hb
     replace k2 := kH k2 hb
     replace D0 := kB D0 hb
     replace D1 := kB D1 hb
     replace D2 := kB D2 hb
     clear hb
     go_wp2_with (first | (with_reducible refine lG (.tmp 3) D0.out ?_) | (with_reducible refine lG (.tmp 4) D1.out ?_) | (with_reducible refine lG (.tmp 5) D2.out ?_))
     go_ret
     exact ⟨rfl, HW.out⟩
  · have IE := hI iE
    have HZ := hI hz
    have NC := hI nC
    have HZC := hI hzc
    have IR := hI iR
    clear iE hz nC hzc iR
    refine wp_region_grow (l := _) 26 (by kernel_rfl) (by kernel_rfl) (fun i => [29, 30, 31, 32, 33, 34, 35, 36, 37, 38, 39, 40, 41, 42, 43, 44, 45, 46, 47, 48, 49, 50, 51, 52, 53, 54].getD i 0) (LR [LV (vO (e) p0), LV (.bool true), LV (.bool true), LV (vO (e) p0), LV (.bool false), LV (.bool true), LV (.bool true), LV (.bool true), LV (vO (c) p1), LV (.bool true), LV (.bool true), LV (.bool true), LV (vO (c) p1), LV (.bool false), LV (.bool true), LV (.bool true), LV (.bool true), LV (vO (r) p2), LV (.bool false), LV (.bool false), LV (.bool false), LV undef, LV undef, LV undef, LV undef, LV (.bool false)]) (LR_mono ⟨mLV _, mLV _, mLV _, mLV _, mLV _, mLV _, mLV _, mLV _, mLV _, mLV _, mLV _, mLV _, mLV _, mLV _, mLV _, mLV _, mLV _, mLV _, mLV _, mLV _, mLV _, mLV _, mLV _, mLV _, mLV _, mLV _, trivial⟩) (by
     intro i j hi hj h
     exact inj_getD [29, 30, 31, 32, 33, 34, 35, 36, 37, 38, 39, 40, 41, 42, 43, 44, 45, 46, 47, 48, 49, 50, 51, 52, 53, 54] (by decide) i j hi hj h) (by
     intro i hi
     exact lt_getD 55 [29, 30, 31, 32, 33, 34, 35, 36, 37, 38, 39, 40, 41, 42, 43, 44, 45, 46, 47, 48, 49, 50, 51, 52, 53, 54] (by decide) i hi) ?step ?done
    case step =>
     intro i hi a w9 v lo hi' hoth hb hw
     have sl3 : a.tmps[3]? = some (.pointer (some ⟨g0, 0, none⟩)) := (hoth 3 (fun j hj => ne_getD 3 _ (by decide) j hj)).trans rfl
     have sl4 : a.tmps[4]? = some (.pointer (some ⟨g1, 0, none⟩)) := (hoth 4 (fun j hj => ne_getD 4 _ (by decide) j hj)).trans rfl
     have sl5 : a.tmps[5]? = some (.pointer (some ⟨g2, 0, none⟩)) := (hoth 5 (fun j hj => ne_getD 5 _ (by decide) j hj)).trans rfl
     match i, hi with
     | 0, _ =>
      exact gw_box rfl (wanted_plain rfl) (.tmp 3) rfl (eval_of sl3) (D0.out.keep hb) ⟨_, rfl, Below.refl _ _, rfl⟩
     | 1, _ =>
      obtain ⟨s0, r0, _⟩ := hw 0 (by omega) (by kernel_rfl)
      have e0 : v 0 = vO (e) p0 := r0
      rw [e0] at s0
      refine gw_t rfl (wanted_plain rfl) 63 29 _ _ rfl (fun v w => by go_simp) s0 ?_
      with_reducible refine (IE.out w9 p0 (k0.out.below hb) (HT.out.below hb)).mono ?_
      rintro e w3 ⟨rfl, hb3⟩
      exact ⟨_, rfl, _, rfl, hb3, rfl⟩
     | 2, _ =>
      obtain ⟨s0, r0, _⟩ := hw 1 (by omega) (by kernel_rfl)
      have e0 : v 1 = .bool true := r0
      rw [e0] at s0
      exact gw_move rfl (wanted_plain rfl) 30 _ rfl s0 ⟨_, rfl, Below.refl _ _, rfl⟩
     | 3, _ =>
      obtain ⟨s9, r9, _⟩ := hw 2 (by omega) (by kernel_rfl)
      have e9 : v 2 = .bool true := r9
      rw [e9] at s9
      exact gw_box rfl (wanted_on rfl rfl rfl s9 rfl) (.tmp 3) rfl (eval_of sl3) (D0.out.keep hb) ⟨_, rfl, Below.refl _ _, rfl⟩
     | 4, _ =>
      obtain ⟨s9, r9, _⟩ := hw 2 (by omega) (by kernel_rfl)
      have e9 : v 2 = .bool true := r9
      rw [e9] at s9
      obtain ⟨s0, r0, _⟩ := hw 3 (by omega) (by kernel_rfl)
      have e0 : v 3 = vO (e) p0 := r0
      rw [e0] at s0
      refine gw_t rfl (wanted_on rfl rfl rfl s9 rfl) 39 32 _ _ rfl (fun v w => by go_simp) s0 ?_
      with_reducible refine (zeroR e p0 w9 false HZ.out).mono ?_
      rintro e w3 ⟨rfl, hb3⟩
      exact ⟨_, rfl, _, rfl, hb3, rfl⟩
     | 5, _ =>
      obtain ⟨s9, r9, _⟩ := hw 2 (by omega) (by kernel_rfl)
      have e9 : v 2 = .bool true := r9
      rw [e9] at s9
      obtain ⟨s0, r0, _⟩ := hw 4 (by omega) (by kernel_rfl)
      have e0 : v 4 = .bool false := r0
      rw [e0] at s0
      exact gw_not rfl (wanted_on rfl rfl rfl s9 rfl) 33 _ _ rfl s0 ⟨_, rfl, Below.refl _ _, rfl⟩
     | 6, _ =>
      obtain ⟨s0, r0, _⟩ := hw 2 (by omega) (by kernel_rfl)
      have e0 : v 2 = .bool true := r0
      rw [e0] at s0
      obtain ⟨s1, r1, _⟩ := hw 5 (by omega) (by kernel_rfl)
      have e1 : v 5 = .bool true := r1
      rw [e1] at s1
      exact gw_pickT rfl (wanted_plain rfl) 31 34 _ _ rfl s0 s1 ⟨_, rfl, Below.refl _ _, rfl⟩
     | 7, _ =>
      obtain ⟨s0, r0, _⟩ := hw 6 (by omega) (by kernel_rfl)
      have e0 : v 6 = .bool true := r0
      rw [e0] at s0
      exact gw_move rfl (wanted_plain rfl) 35 _ rfl s0 ⟨_, rfl, Below.refl _ _, rfl⟩
     | 8, _ =>
      obtain ⟨s9, r9, _⟩ := hw 7 (by omega) (by kernel_rfl)
      have e9 : v 7 = .bool true := r9
      rw [e9] at s9
      exact gw_box rfl (wanted_on rfl rfl rfl s9 rfl) (.tmp 4) rfl (eval_of sl4) (D1.out.keep hb) ⟨_, rfl, Below.refl _ _, rfl⟩
     | 9, _ =>
      obtain ⟨s9, r9, _⟩ := hw 7 (by omega) (by kernel_rfl)
      have e9 : v 7 = .bool true := r9
      rw [e9] at s9
      obtain ⟨s0, r0, _⟩ := hw 8 (by omega) (by kernel_rfl)
      have e0 : v 8 = vO (c) p1 := r0
      rw [e0] at s0
      refine gw_t rfl (wanted_on rfl rfl rfl s9 rfl) 85 37 _ _ rfl (fun v w => by go_simp) s0 ?_
      with_reducible refine (NC.out w9 p1 (k1.out.below hb)).mono ?_
      rintro e w3 ⟨rfl, hb3⟩
      exact ⟨_, rfl, _, rfl, hb3, rfl⟩
     | 10, _ =>
      obtain ⟨s0, r0, _⟩ := hw 7 (by omega) (by kernel_rfl)
      have e0 : v 7 = .bool true := r0
      rw [e0] at s0
      obtain ⟨s1, r1, _⟩ := hw 9 (by omega) (by kernel_rfl)
      have e1 : v 9 = .bool true := r1
      rw [e1] at s1
      exact gw_pickT rfl (wanted_plain rfl) 36 38 _ _ rfl s0 s1 ⟨_, rfl, Below.refl _ _, rfl⟩
     | 11, _ =>
      obtain ⟨s0, r0, _⟩ := hw 10 (by omega) (by kernel_rfl)
      have e0 : v 10 = .bool true := r0
      rw [e0] at s0
      exact gw_move rfl (wanted_plain rfl) 39 _ rfl s0 ⟨_, rfl, Below.refl _ _, rfl⟩
     | 12, _ =>
      obtain ⟨s9, r9, _⟩ := hw 11 (by omega) (by kernel_rfl)
      have e9 : v 11 = .bool true := r9
      rw [e9] at s9
      exact gw_box rfl (wanted_on rfl rfl rfl s9 rfl) (.tmp 4) rfl (eval_of sl4) (D1.out.keep hb) ⟨_, rfl, Below.refl _ _, rfl⟩
     | 13, _ =>
      obtain ⟨s9, r9, _⟩ := hw 11 (by omega) (by kernel_rfl)
      have e9 : v 11 = .bool true := r9
      rw [e9] at s9
      obtain ⟨s0, r0, _⟩ := hw 12 (by omega) (by kernel_rfl)
      have e0 : v 12 = vO (c) p1 := r0
      rw [e0] at s0
      refine gw_t rfl (wanted_on rfl rfl rfl s9 rfl) 39 41 _ _ rfl (fun v w => by go_simp) s0 ?_
      with_reducible refine (zeroR c p1 w9 false HZC.out).mono ?_
      rintro e w3 ⟨rfl, hb3⟩
      exact ⟨_, rfl, _, rfl, hb3, rfl⟩
     | 14, _ =>
      obtain ⟨s9, r9, _⟩ := hw 11 (by omega) (by kernel_rfl)
      have e9 : v 11 = .bool true := r9
      rw [e9] at s9
      obtain ⟨s0, r0, _⟩ := hw 13 (by omega) (by kernel_rfl)
      have e0 : v 13 = .bool false := r0
      rw [e0] at s0
      exact gw_not rfl (wanted_on rfl rfl rfl s9 rfl) 42 _ _ rfl s0 ⟨_, rfl, Below.refl _ _, rfl⟩
     | 15, _ =>
      obtain ⟨s0, r0, _⟩ := hw 11 (by omega) (by kernel_rfl)
      have e0 : v 11 = .bool true := r0
      rw [e0] at s0
      obtain ⟨s1, r1, _⟩ := hw 14 (by omega) (by kernel_rfl)
      have e1 : v 14 = .bool true := r1
      rw [e1] at s1
      exact gw_pickT rfl (wanted_plain rfl) 40 43 _ _ rfl s0 s1 ⟨_, rfl, Below.refl _ _, rfl⟩
     | 16, _ =>
      obtain ⟨s0, r0, _⟩ := hw 15 (by omega) (by kernel_rfl)
      have e0 : v 15 = .bool true := r0
      rw [e0] at s0
      exact gw_move rfl (wanted_plain rfl) 44 _ rfl s0 ⟨_, rfl, Below.refl _ _, rfl⟩
     | 17, _ =>
      obtain ⟨s9, r9, _⟩ := hw 16 (by omega) (by kernel_rfl)
      have e9 : v 16 = .bool true := r9
      rw [e9] at s9
      exact gw_box rfl (wanted_on rfl rfl rfl s9 rfl) (.tmp 5) rfl (eval_of sl5) (D2.out.keep hb) ⟨_, rfl, Below.refl _ _, rfl⟩
     | 18, _ =>
      obtain ⟨s9, r9, _⟩ := hw 16 (by omega) (by kernel_rfl)
      have e9 : v 16 = .bool true := r9
      rw [e9] at s9
      obtain ⟨s0, r0, _⟩ := hw 17 (by omega) (by kernel_rfl)
      have e0 : v 17 = vO (r) p2 := r0
      rw [e0] at s0
      refine gw_t rfl (wanted_on rfl rfl rfl s9 rfl) 63 46 _ _ rfl (fun v w => by go_simp) s0 ?_
      with_reducible refine (IR.out w9 p2 (k2.out.below hb) (HT.out.below hb)).mono ?_
      rintro e w3 ⟨rfl, hb3⟩
      exact ⟨_, rfl, _, rfl, hb3, rfl⟩
     | 19, _ =>
      obtain ⟨s0, r0, _⟩ := hw 16 (by omega) (by kernel_rfl)
      have e0 : v 16 = .bool true := r0
      rw [e0] at s0
      obtain ⟨s1, r1, _⟩ := hw 18 (by omega) (by kernel_rfl)
      have e1 : v 18 = .bool false := r1
      rw [e1] at s1
      exact gw_pickT rfl (wanted_plain rfl) 45 47 _ _ rfl s0 s1 ⟨_, rfl, Below.refl _ _, rfl⟩
     | 20, _ =>
      obtain ⟨s0, r0, _⟩ := hw 19 (by omega) (by kernel_rfl)
      have e0 : v 19 = .bool false := r0
      rw [e0] at s0
      exact gw_move rfl (wanted_plain rfl) 48 _ rfl s0 ⟨_, rfl, Below.refl _ _, rfl⟩
     | 21, _ =>
      obtain ⟨s9, r9, _⟩ := hw 20 (by omega) (by kernel_rfl)
      have e9 : v 20 = .bool false := r9
      rw [e9] at s9
      exact gw_skip rfl (wanted_off rfl rfl rfl s9 rfl) ⟨_, rfl, Below.refl _ _, rfl⟩
     | 22, _ =>
      obtain ⟨s9, r9, _⟩ := hw 20 (by omega) (by kernel_rfl)
      have e9 : v 20 = .bool false := r9
      rw [e9] at s9
      exact gw_skip rfl (wanted_off rfl rfl rfl s9 rfl) ⟨_, rfl, Below.refl _ _, rfl⟩
     | 23, _ =>
      obtain ⟨s9, r9, _⟩ := hw 20 (by omega) (by kernel_rfl)
      have e9 : v 20 = .bool false := r9
      rw [e9] at s9
      exact gw_skip rfl (wanted_off rfl rfl rfl s9 rfl) ⟨_, rfl, Below.refl _ _, rfl⟩
     | 24, _ =>
      obtain ⟨s9, r9, _⟩ := hw 20 (by omega) (by kernel_rfl)
      have e9 : v 20 = .bool false := r9
      rw [e9] at s9
      exact gw_skip rfl (wanted_off rfl rfl rfl s9 rfl) ⟨_, rfl, Below.refl _ _, rfl⟩
     | 25, _ =>
      obtain ⟨s0, r0, _⟩ := hw 20 (by omega) (by kernel_rfl)
      have e0 : v 20 = .bool false := r0
      rw [e0] at s0
      exact gw_pickF rfl (wanted_plain rfl) 49 _ _ rfl s0 ⟨_, rfl, Below.refl _ _, rfl⟩
     | k + 26, h => exact absurd h (by omega)
    case done =>
     intro a w9 v lo hi' hdef hsz hoth hb hj hap
     obtain ⟨_, hv25, _, _⟩ := hj 25 (by omega)
     have ha := eq_puts hdef hsz hoth (fun i hi => (hj i hi).1)
     subst ha
     clear hj hoth hdef hsz hap
     change v 25 = _ at hv25
     simp only [puts, List.getD_cons_zero, List.getD_cons_succ, hv25]
     generalize v 0 = v0
     generalize v 1 = v1
     generalize v 2 = v2
     generalize v 3 = v3
     generalize v 4 = v4
     generalize v 5 = v5
     generalize v 6 = v6
     generalize v 7 = v7
     generalize v 8 = v8
     generalize v 9 = v9
     generalize v 10 = v10
     generalize v 11 = v11
     generalize v 12 = v12
     generalize v 13 = v13
     generalize v 14 = v14
     generalize v 15 = v15
     generalize v 16 = v16
     generalize v 17 = v17
     generalize v 18 = v18
     generalize v 19 = v19
     generalize v 20 = v20
     generalize v 21 = v21
     generalize v 22 = v22
     generalize v 23 = v23
     generalize v 24 = v24
     clear hv25
     simp only [Act.put, List.setIfInBounds_toArray, List.set_cons_zero, List.set_cons_succ]
     show wpList _ _ _ [_] _ _
     replace HW := kW HW hb
     replace HT := kT HT hb
     replace k0 := kH k0 hb
     replace k1 := kH k1 hb
     replace k2 := kH k2 hb
     replace D0 := kB D0 hb
     replace D1 := kB D1 hb
     replace D2 := kB D2 hb
     clear hb
     go_wp2_with (first | (with_reducible refine lG (.tmp 3) D0.out ?_) | (with_reducible refine lG (.tmp 4) D1.out ?_) | (with_reducible refine lG (.tmp 5) D2.out ?_))
     go_ret
     exact ⟨rfl, HW.out⟩
  · have IE := hI iE
    have HZ := hI hz
    have NC := hI nC
    have HZC := hI hzc
    have IR := hI iR
    have EX := hI eX
    have LS := hI lS
    clear iE hz nC hzc iR eX lS
    refine wp_region_grow (l := _) 26 (by kernel_rfl) (by kernel_rfl) (fun i => [29, 30, 31, 32, 33, 34, 35, 36, 37, 38, 39, 40, 41, 42, 43, 44, 45, 46, 47, 48, 49, 50, 51, 52, 53, 54].getD i 0) (LR [LV (vO (e) p0), LV (.bool true), LV (.bool true), LV (vO (e) p0), LV (.bool false), LV (.bool true), LV (.bool true), LV (.bool true), LV (vO (c) p1), LV (.bool true), LV (.bool true), LV (.bool true), LV (vO (c) p1), LV (.bool false), LV (.bool true), LV (.bool true), LV (.bool true), LV (vO (r) p2), LV (.bool true), LV (.bool true), LV (.bool true), LV (vO (r) p2), LH (x), LV (vO (e) p0), LV (.bool lt), LV (.bool lt)]) (LR_mono ⟨mLV _, mLV _, mLV _, mLV _, mLV _, mLV _, mLV _, mLV _, mLV _, mLV _, mLV _, mLV _, mLV _, mLV _, mLV _, mLV _, mLV _, mLV _, mLV _, mLV _, mLV _, mLV _, mLH _, mLV _, mLV _, mLV _, trivial⟩) (by
     intro i j hi hj h
     exact inj_getD [29, 30, 31, 32, 33, 34, 35, 36, 37, 38, 39, 40, 41, 42, 43, 44, 45, 46, 47, 48, 49, 50, 51, 52, 53, 54] (by decide) i j hi hj h) (by
     intro i hi
     exact lt_getD 55 [29, 30, 31, 32, 33, 34, 35, 36, 37, 38, 39, 40, 41, 42, 43, 44, 45, 46, 47, 48, 49, 50, 51, 52, 53, 54] (by decide) i hi) ?step ?done
    case step =>
     intro i hi a w9 v lo hi' hoth hb hw
     have sl3 : a.tmps[3]? = some (.pointer (some ⟨g0, 0, none⟩)) := (hoth 3 (fun j hj => ne_getD 3 _ (by decide) j hj)).trans rfl
     have sl4 : a.tmps[4]? = some (.pointer (some ⟨g1, 0, none⟩)) := (hoth 4 (fun j hj => ne_getD 4 _ (by decide) j hj)).trans rfl
     have sl5 : a.tmps[5]? = some (.pointer (some ⟨g2, 0, none⟩)) := (hoth 5 (fun j hj => ne_getD 5 _ (by decide) j hj)).trans rfl
     match i, hi with
     | 0, _ =>
      exact gw_box rfl (wanted_plain rfl) (.tmp 3) rfl (eval_of sl3) (D0.out.keep hb) ⟨_, rfl, Below.refl _ _, rfl⟩
     | 1, _ =>
      obtain ⟨s0, r0, _⟩ := hw 0 (by omega) (by kernel_rfl)
      have e0 : v 0 = vO (e) p0 := r0
      rw [e0] at s0
      refine gw_t rfl (wanted_plain rfl) 63 29 _ _ rfl (fun v w => by go_simp) s0 ?_
      with_reducible refine (IE.out w9 p0 (k0.out.below hb) (HT.out.below hb)).mono ?_
      rintro e w3 ⟨rfl, hb3⟩
      exact ⟨_, rfl, _, rfl, hb3, rfl⟩
     | 2, _ =>
      obtain ⟨s0, r0, _⟩ := hw 1 (by omega) (by kernel_rfl)
      have e0 : v 1 = .bool true := r0
      rw [e0] at s0
      exact gw_move rfl (wanted_plain rfl) 30 _ rfl s0 ⟨_, rfl, Below.refl _ _, rfl⟩
     | 3, _ =>
      obtain ⟨s9, r9, _⟩ := hw 2 (by omega) (by kernel_rfl)
      have e9 : v 2 = .bool true := r9
      rw [e9] at s9
      exact gw_box rfl (wanted_on rfl rfl rfl s9 rfl) (.tmp 3) rfl (eval_of sl3) (D0.out.keep hb) ⟨_, rfl, Below.refl _ _, rfl⟩
     | 4, _ =>
      obtain ⟨s9, r9, _⟩ := hw 2 (by omega) (by kernel_rfl)
      have e9 : v 2 = .bool true := r9
      rw [e9] at s9
      obtain ⟨s0, r0, _⟩ := hw 3 (by omega) (by kernel_rfl)
      have e0 : v 3 = vO (e) p0 := r0
      rw [e0] at s0
      refine gw_t rfl (wanted_on rfl rfl rfl s9 rfl) 39 32 _ _ rfl (fun v w => by go_simp) s0 ?_
      with_reducible refine (zeroR e p0 w9 false HZ.out).mono ?_
      rintro e w3 ⟨rfl, hb3⟩
      exact ⟨_, rfl, _, rfl, hb3, rfl⟩
     | 5, _ =>
      obtain ⟨s9, r9, _⟩ := hw 2 (by omega) (by kernel_rfl)
      have e9 : v 2 = .bool true := r9
      rw [e9] at s9
      obtain ⟨s0, r0, _⟩ := hw 4 (by omega) (by kernel_rfl)
      have e0 : v 4 = .bool false := r0
      rw [e0] at s0
      exact gw_not rfl (wanted_on rfl rfl rfl s9 rfl) 33 _ _ rfl s0 ⟨_, rfl, Below.refl _ _, rfl⟩
     | 6, _ =>
      obtain ⟨s0, r0, _⟩ := hw 2 (by omega) (by kernel_rfl)
      have e0 : v 2 = .bool true := r0
      rw [e0] at s0
      obtain ⟨s1, r1, _⟩ := hw 5 (by omega) (by kernel_rfl)
      have e1 : v 5 = .bool true := r1
      rw [e1] at s1
      exact gw_pickT rfl (wanted_plain rfl) 31 34 _ _ rfl s0 s1 ⟨_, rfl, Below.refl _ _, rfl⟩
     | 7, _ =>
      obtain ⟨s0, r0, _⟩ := hw 6 (by omega) (by kernel_rfl)
      have e0 : v 6 = .bool true := r0
      rw [e0] at s0
      exact gw_move rfl (wanted_plain rfl) 35 _ rfl s0 ⟨_, rfl, Below.refl _ _, rfl⟩
     | 8, _ =>
      obtain ⟨s9, r9, _⟩ := hw 7 (by omega) (by kernel_rfl)
      have e9 : v 7 = .bool true := r9
      rw [e9] at s9
      exact gw_box rfl (wanted_on rfl rfl rfl s9 rfl) (.tmp 4) rfl (eval_of sl4) (D1.out.keep hb) ⟨_, rfl, Below.refl _ _, rfl⟩
     | 9, _ =>
      obtain ⟨s9, r9, _⟩ := hw 7 (by omega) (by kernel_rfl)
      have e9 : v 7 = .bool true := r9
      rw [e9] at s9
      obtain ⟨s0, r0, _⟩ := hw 8 (by omega) (by kernel_rfl)
      have e0 : v 8 = vO (c) p1 := r0
      rw [e0] at s0
      refine gw_t rfl (wanted_on rfl rfl rfl s9 rfl) 85 37 _ _ rfl (fun v w => by go_simp) s0 ?_
      with_reducible refine (NC.out w9 p1 (k1.out.below hb)).mono ?_
      rintro e w3 ⟨rfl, hb3⟩
      exact ⟨_, rfl, _, rfl, hb3, rfl⟩
     | 10, _ =>
      obtain ⟨s0, r0, _⟩ := hw 7 (by omega) (by kernel_rfl)
      have e0 : v 7 = .bool true := r0
      rw [e0] at s0
      obtain ⟨s1, r1, _⟩ := hw 9 (by omega) (by kernel_rfl)
      have e1 : v 9 = .bool true := r1
      rw [e1] at s1
      exact gw_pickT rfl (wanted_plain rfl) 36 38 _ _ rfl s0 s1 ⟨_, rfl, Below.refl _ _, rfl⟩
     | 11, _ =>
      obtain ⟨s0, r0, _⟩ := hw 10 (by omega) (by kernel_rfl)
      have e0 : v 10 = .bool true := r0
      rw [e0] at s0
      exact gw_move rfl (wanted_plain rfl) 39 _ rfl s0 ⟨_, rfl, Below.refl _ _, rfl⟩
     | 12, _ =>
      obtain ⟨s9, r9, _⟩ := hw 11 (by omega) (by kernel_rfl)
      have e9 : v 11 = .bool true := r9
      rw [e9] at s9
      exact gw_box rfl (wanted_on rfl rfl rfl s9 rfl) (.tmp 4) rfl (eval_of sl4) (D1.out.keep hb) ⟨_, rfl, Below.refl _ _, rfl⟩
     | 13, _ =>
      obtain ⟨s9, r9, _⟩ := hw 11 (by omega) (by kernel_rfl)
      have e9 : v 11 = .bool true := r9
      rw [e9] at s9
      obtain ⟨s0, r0, _⟩ := hw 12 (by omega) (by kernel_rfl)
      have e0 : v 12 = vO (c) p1 := r0
      rw [e0] at s0
      refine gw_t rfl (wanted_on rfl rfl rfl s9 rfl) 39 41 _ _ rfl (fun v w => by go_simp) s0 ?_
      with_reducible refine (zeroR c p1 w9 false HZC.out).mono ?_
      rintro e w3 ⟨rfl, hb3⟩
      exact ⟨_, rfl, _, rfl, hb3, rfl⟩
     | 14, _ =>
      obtain ⟨s9, r9, _⟩ := hw 11 (by omega) (by kernel_rfl)
      have e9 : v 11 = .bool true := r9
      rw [e9] at s9
      obtain ⟨s0, r0, _⟩ := hw 13 (by omega) (by kernel_rfl)
      have e0 : v 13 = .bool false := r0
      rw [e0] at s0
      exact gw_not rfl (wanted_on rfl rfl rfl s9 rfl) 42 _ _ rfl s0 ⟨_, rfl, Below.refl _ _, rfl⟩
     | 15, _ =>
      obtain ⟨s0, r0, _⟩ := hw 11 (by omega) (by kernel_rfl)
      have e0 : v 11 = .bool true := r0
      rw [e0] at s0
      obtain ⟨s1, r1, _⟩ := hw 14 (by omega) (by kernel_rfl)
      have e1 : v 14 = .bool true := r1
      rw [e1] at s1
      exact gw_pickT rfl (wanted_plain rfl) 40 43 _ _ rfl s0 s1 ⟨_, rfl, Below.refl _ _, rfl⟩
     | 16, _ =>
      obtain ⟨s0, r0, _⟩ := hw 15 (by omega) (by kernel_rfl)
      have e0 : v 15 = .bool true := r0
      rw [e0] at s0
      exact gw_move rfl (wanted_plain rfl) 44 _ rfl s0 ⟨_, rfl, Below.refl _ _, rfl⟩
     | 17, _ =>
      obtain ⟨s9, r9, _⟩ := hw 16 (by omega) (by kernel_rfl)
      have e9 : v 16 = .bool true := r9
      rw [e9] at s9
      exact gw_box rfl (wanted_on rfl rfl rfl s9 rfl) (.tmp 5) rfl (eval_of sl5) (D2.out.keep hb) ⟨_, rfl, Below.refl _ _, rfl⟩
     | 18, _ =>
      obtain ⟨s9, r9, _⟩ := hw 16 (by omega) (by kernel_rfl)
      have e9 : v 16 = .bool true := r9
      rw [e9] at s9
      obtain ⟨s0, r0, _⟩ := hw 17 (by omega) (by kernel_rfl)
      have e0 : v 17 = vO (r) p2 := r0
      rw [e0] at s0
      refine gw_t rfl (wanted_on rfl rfl rfl s9 rfl) 63 46 _ _ rfl (fun v w => by go_simp) s0 ?_
      with_reducible refine (IR.out w9 p2 (k2.out.below hb) (HT.out.below hb)).mono ?_
      rintro e w3 ⟨rfl, hb3⟩
      exact ⟨_, rfl, _, rfl, hb3, rfl⟩
     | 19, _ =>
      obtain ⟨s0, r0, _⟩ := hw 16 (by omega) (by kernel_rfl)
      have e0 : v 16 = .bool true := r0
      rw [e0] at s0
      obtain ⟨s1, r1, _⟩ := hw 18 (by omega) (by kernel_rfl)
      have e1 : v 18 = .bool true := r1
      rw [e1] at s1
      exact gw_pickT rfl (wanted_plain rfl) 45 47 _ _ rfl s0 s1 ⟨_, rfl, Below.refl _ _, rfl⟩
     | 20, _ =>
      obtain ⟨s0, r0, _⟩ := hw 19 (by omega) (by kernel_rfl)
      have e0 : v 19 = .bool true := r0
      rw [e0] at s0
      exact gw_move rfl (wanted_plain rfl) 48 _ rfl s0 ⟨_, rfl, Below.refl _ _, rfl⟩
     | 21, _ =>
      obtain ⟨s9, r9, _⟩ := hw 20 (by omega) (by kernel_rfl)
      have e9 : v 20 = .bool true := r9
      rw [e9] at s9
      exact gw_box rfl (wanted_on rfl rfl rfl s9 rfl) (.tmp 5) rfl (eval_of sl5) (D2.out.keep hb) ⟨_, rfl, Below.refl _ _, rfl⟩
     | 22, _ =>
      obtain ⟨s9, r9, _⟩ := hw 20 (by omega) (by kernel_rfl)
      have e9 : v 20 = .bool true := r9
      rw [e9] at s9
      obtain ⟨s0, r0, _⟩ := hw 21 (by omega) (by kernel_rfl)
      have e0 : v 21 = vO (r) p2 := r0
      rw [e0] at s0
      refine gw_t rfl (wanted_on rfl rfl rfl s9 rfl) 37 50 _ _ rfl (fun v w => by go_simp) s0 ?_
      with_reducible refine (EX.out w9 p2 (k2.out.below hb) (HT.out.below hb)).mono ?_
      rintro e w3 ⟨p, rfl, hp, hb3⟩
      exact ⟨_, rfl, _, rfl, hb3, p, rfl, hp⟩
     | 23, _ =>
      obtain ⟨s9, r9, _⟩ := hw 20 (by omega) (by kernel_rfl)
      have e9 : v 20 = .bool true := r9
      rw [e9] at s9
      exact gw_box rfl (wanted_on rfl rfl rfl s9 rfl) (.tmp 3) rfl (eval_of sl3) (D0.out.keep hb) ⟨_, rfl, Below.refl _ _, rfl⟩
     | 24, _ =>
      obtain ⟨s9, r9, _⟩ := hw 20 (by omega) (by kernel_rfl)
      have e9 : v 20 = .bool true := r9
      rw [e9] at s9
      obtain ⟨s0, r0, _⟩ := hw 22 (by omega) (by kernel_rfl)
      obtain ⟨qq0, e0, kk0⟩ : LH (x) (v 22) (lo 22) (hi' 22) w9 := r0
      rw [e0] at s0
      obtain ⟨s1, r1, _⟩ := hw 23 (by omega) (by kernel_rfl)
      have e1 : v 23 = vO (e) p0 := r1
      rw [e1] at s1
      refine gw_tt rfl (wanted_on rfl rfl rfl s9 rfl) 60 51 52 _ _ _ rfl (fun v u w => by go_simp) s0 s1 ?_
      with_reducible refine (LS.out w9 qq0 p0 kk0 (k0.out.below hb) (HT.out.below hb)).mono ?_
      rintro e w3 ⟨rfl, hb3⟩
      exact ⟨_, rfl, _, rfl, hb3, rfl⟩
     | 25, _ =>
      obtain ⟨s0, r0, _⟩ := hw 20 (by omega) (by kernel_rfl)
      have e0 : v 20 = .bool true := r0
      rw [e0] at s0
      obtain ⟨s1, r1, _⟩ := hw 24 (by omega) (by kernel_rfl)
      have e1 : v 24 = .bool lt := r1
      rw [e1] at s1
      exact gw_pickT rfl (wanted_plain rfl) 49 53 _ _ rfl s0 s1 ⟨_, rfl, Below.refl _ _, rfl⟩
     | k + 26, h => exact absurd h (by omega)
    case done =>
     intro a w9 v lo hi' hdef hsz hoth hb hj hap
     obtain ⟨_, hv25, _, _⟩ := hj 25 (by omega)
     have ha := eq_puts hdef hsz hoth (fun i hi => (hj i hi).1)
     subst ha
     clear hj hoth hdef hsz hap
     change v 25 = _ at hv25
     simp only [puts, List.getD_cons_zero, List.getD_cons_succ, hv25]
     generalize v 0 = v0
     generalize v 1 = v1
     generalize v 2 = v2
     generalize v 3 = v3
     generalize v 4 = v4
     generalize v 5 = v5
     generalize v 6 = v6
     generalize v 7 = v7
     generalize v 8 = v8
     generalize v 9 = v9
     generalize v 10 = v10
     generalize v 11 = v11
     generalize v 12 = v12
     generalize v 13 = v13
     generalize v 14 = v14
     generalize v 15 = v15
     generalize v 16 = v16
     generalize v 17 = v17
     generalize v 18 = v18
     generalize v 19 = v19
     generalize v 20 = v20
     generalize v 21 = v21
     generalize v 22 = v22
     generalize v 23 = v23
     generalize v 24 = v24
     clear hv25
     simp only [Act.put, List.setIfInBounds_toArray, List.set_cons_zero, List.set_cons_succ]
     show wpList _ _ _ [_] _ _
     replace HW := kW HW hb
     replace HT := kT HT hb
     replace k0 := kH k0 hb
     replace k1 := kH k1 hb
     replace k2 := kH k2 hb
     replace D0 := kB D0 hb
     replace D1 := kB D1 hb
     replace D2 := kB D2 hb
     clear hb
     go_wp2_with (first | (with_reducible refine lG (.tmp 3) D0.out ?_) | (with_reducible refine lG (.tmp 4) D1.out ?_) | (with_reducible refine lG (.tmp 5) D2.out ?_))
     go_ret
     exact ⟨rfl, HW.out⟩
theorem norm1 (e c r : Ob) (p : Value) (w : World) (iE : ∀ X q, Hd X e q → Tab X → Calls Tryz.prog 63 #[vO e q] X (RetB X false)) (hp : Hd w (.cons (.cons e c) r) p) (ht : Tab w) :
 Calls Tryz.prog 63 #[vO (.cons (.cons e c) r) p] w (RetB w false) := normAll e c r p w false (.inl ⟨iE, rfl⟩) hp ht
theorem norm2 (e c r : Ob) (p : Value) (w : World) (iE : ∀ X q, Hd X e q → Tab X → Calls Tryz.prog 63 #[vO e q] X (RetB X true)) (hz : e.numIs 0 = true) (hp : Hd w (.cons (.cons e c) r) p) (ht : Tab w) :
 Calls Tryz.prog 63 #[vO (.cons (.cons e c) r) p] w (RetB w false) := normAll e c r p w false (.inr (.inl ⟨iE, hz, rfl⟩)) hp ht
theorem norm3 (e c r : Ob) (p : Value) (w : World) (iE : ∀ X q, Hd X e q → Tab X → Calls Tryz.prog 63 #[vO e q] X (RetB X true)) (hz : e.numIs 0 = false) (nC : ∀ X q, Hd X c q → Calls Tryz.prog 85 #[vO c q] X (RetB X false)) (hp : Hd w (.cons (.cons e c) r) p) (ht : Tab w) :
 Calls Tryz.prog 63 #[vO (.cons (.cons e c) r) p] w (RetB w false) := normAll e c r p w false (.inr (.inr (.inl ⟨iE, hz, nC, rfl⟩))) hp ht
theorem norm4 (e c r : Ob) (p : Value) (w : World) (iE : ∀ X q, Hd X e q → Tab X → Calls Tryz.prog 63 #[vO e q] X (RetB X true)) (hz : e.numIs 0 = false) (nC : ∀ X q, Hd X c q → Calls Tryz.prog 85 #[vO c q] X (RetB X true)) (hzc : c.numIs 0 = true) (hp : Hd w (.cons (.cons e c) r) p) (ht : Tab w) :
 Calls Tryz.prog 63 #[vO (.cons (.cons e c) r) p] w (RetB w false) := normAll e c r p w false (.inr (.inr (.inr (.inl ⟨iE, hz, nC, hzc, rfl⟩)))) hp ht
theorem norm5 (e c r : Ob) (p : Value) (w : World) (iE : ∀ X q, Hd X e q → Tab X → Calls Tryz.prog 63 #[vO e q] X (RetB X true)) (hz : e.numIs 0 = false) (nC : ∀ X q, Hd X c q → Calls Tryz.prog 85 #[vO c q] X (RetB X true)) (hzc : c.numIs 0 = false) (iR : ∀ X q, Hd X r q → Tab X → Calls Tryz.prog 63 #[vO r q] X (RetB X false)) (hp : Hd w (.cons (.cons e c) r) p) (ht : Tab w) :
 Calls Tryz.prog 63 #[vO (.cons (.cons e c) r) p] w (RetB w false) := normAll e c r p w false (.inr (.inr (.inr (.inr (.inl ⟨iE, hz, nC, hzc, iR, rfl⟩))))) hp ht
theorem norm6 (e c r : Ob) (p : Value) (w : World) (iE : ∀ X q, Hd X e q → Tab X → Calls Tryz.prog 63 #[vO e q] X (RetB X true)) (hz : e.numIs 0 = false) (nC : ∀ X q, Hd X c q → Calls Tryz.prog 85 #[vO c q] X (RetB X true)) (hzc : c.numIs 0 = false) (iR : ∀ X q, Hd X r q → Tab X → Calls Tryz.prog 63 #[vO r q] X (RetB X true)) (x : Ob) (lt : Bool) (eX : ∀ X q, Hd X r q → Tab X → Calls Tryz.prog 37 #[vO r q] X (RetH X x)) (lS : ∀ X q t, Hd X x q → Hd X e t → Tab X → Calls Tryz.prog 60 #[vO x q, vO e t] X (RetB X lt)) (hp : Hd w (.cons (.cons e c) r) p) (ht : Tab w) :
 Calls Tryz.prog 63 #[vO (.cons (.cons e c) r) p] w (RetB w lt) := normAll e c r p w lt (.inr (.inr (.inr (.inr (.inr ⟨x, lt, iE, hz, nC, hzc, iR, eX, lS, rfl⟩))))) hp ht
end Go.Proofs.YtocbedijpomemaaGreatDoor
