/- The program's Exponent, Coefficient, Rest. -/
import Derived.Test.YtobjdkblpjmbjaaGreatDoorG19
import Derived.Test.YtobjdkblpjmbjaaGreatDoorG20
import Derived.Test.YtobjdkblpjmbjaaGreatDoorG24
import Derived.Test.YtobjdkblpjmbjaaGreatDoorG37
namespace Go.Proofs.YtobjdkblpjmbjaaGreatDoor
open Go Go.RowKit
set_option linter.unusedVariables false
set_option maxHeartbeats 4000000 in
set_option maxRecDepth 100000 in
theorem expoH (o : Ob) (p : Value) (w : World) (hb : o.bd 90) (hn : o.nodes ≤ 3000) (hp : Hd w o p) (ht : Tab w) :
 Calls Tryz.prog 25 #[vO o p] w (RetOZ w ((ordOf o).map fun a => a.exp.ob)) := by
 have HV : Hid (∀ X, Hd X o p → Tab X → Calls Tryz.prog 20 #[vO o p] X (RetB X (ordOf o).isSome)) := fun X h hT => validH o p X hb hn h hT
 cases ho : ordOf o with
 | none =>
  rw [ho] at HV
  show Calls _ _ _ _ (RetOZ w none)
  clear hb hn
  change Hid (∀ X, Hd X o p → Tab X → Calls Tryz.prog 20 #[vO o p] X (RetB X false)) at HV
  obtain ⟨a0, a1, a2, a3, a4, a5, ea⟩ := cells7 (o) p
  have T := Bx2.new w #[a0, a1, a2, a3, a4, a5, p] #[.int .i64 0, .string ⟨#[]⟩, .string ⟨#[]⟩, .string ⟨#[]⟩, .string ⟨#[]⟩, .string ⟨#[]⟩, .slice none 0 0]
  rw [vO_cells ea]
  go_enter Tryz.func25, Tryz.ntmps25
  go_wp2_with fail
  generalize (w.alloc (.cells #[a0, a1, a2, a3, a4, a5, p] 35)).alloc (.cells #[.int .i64 0, .string ⟨#[]⟩, .string ⟨#[]⟩, .string ⟨#[]⟩, .string ⟨#[]⟩, .string ⟨#[]⟩, .slice none 0 0] 35) = W at T ⊢
  have B0 : Hid (Bx W (w.heap.size) (cellsO (o) p).toArray) := by rw [ea]; exact T.b0
  have K0 := hI (hp.below T.bel)
  have R0 := hI T.b1
  have HW := hI T.bel
  have HT := hI (ht.below T.bel)
  try rw [← vO_cells ea]
  clear T ea hp ht
  with_reducible refine (HV.out _ K0.out HT.out).mono ?_
  rintro e w1 ⟨rfl, hb⟩
  replace B0 := kB B0 hb
  replace K0 := kH K0 hb
  replace R0 := kB R0 hb
  replace HW := kW HW hb
  replace HT := kT HT hb
  clear hb
  go_wp2_with (first | ((with_reducible refine storeZ (g := w.heap.size + 1) (.tmp 2) (.tmp 9) ?_ ?_ ?_ ?_ R0.out ?_); rfl; rfl; rfl; rfl) | (with_reducible refine lG (.tmp 1) B0.out ?_))
  exact retOZs rfl rfl R0.out (by omega) HW.out
 | some a =>
  rw [ho] at HV
  obtain ⟨nfa, ea⟩ := ordOf_some ho
  subst ea
  change Hid (∀ X, Hd X a.ob p → Tab X → Calls Tryz.prog 20 #[vO a.ob p] X (RetB X true)) at HV
  show Calls _ _ _ _ (RetH w (a.exp.ob))
  clear hb hn ho
  obtain ⟨a0, a1, a2, a3, a4, a5, ea⟩ := cells7 (a.ob) p
  have T := Bx2.new w #[a0, a1, a2, a3, a4, a5, p] #[.int .i64 0, .string ⟨#[]⟩, .string ⟨#[]⟩, .string ⟨#[]⟩, .string ⟨#[]⟩, .string ⟨#[]⟩, .slice none 0 0]
  rw [vO_cells ea]
  go_enter Tryz.func25, Tryz.ntmps25
  go_wp2_with fail
  generalize (w.alloc (.cells #[a0, a1, a2, a3, a4, a5, p] 35)).alloc (.cells #[.int .i64 0, .string ⟨#[]⟩, .string ⟨#[]⟩, .string ⟨#[]⟩, .string ⟨#[]⟩, .string ⟨#[]⟩, .slice none 0 0] 35) = W at T ⊢
  have B0 : Hid (Bx W (w.heap.size) (cellsO (a.ob) p).toArray) := by rw [ea]; exact T.b0
  have K0 := hI (hp.below T.bel)
  have R0 := hI T.b1
  have HW := hI T.bel
  have HT := hI (ht.below T.bel)
  try rw [← vO_cells ea]
  clear T ea hp ht
  with_reducible refine (HV.out _ K0.out HT.out).mono ?_
  rintro e w1 ⟨rfl, hb⟩
  replace B0 := kB B0 hb
  replace K0 := kH K0 hb
  replace R0 := kB R0 hb
  replace HW := kW HW hb
  replace HT := kT HT hb
  clear hb
  go_wp2_with (with_reducible refine lG (.tmp 1) B0.out ?_)
  with_reducible refine (partsE a p _ K0.out HT.out).mono ?_
  rintro e w2 ⟨q0, q1, q2, rfl, k0, k1, k2, hb⟩
  replace B0 := kB B0 hb
  replace K0 := kH K0 hb
  replace R0 := kB R0 hb
  replace HW := kW HW hb
  replace HT := kT HT hb
  clear hb
  replace k0 := hI k0
  replace k1 := hI k1
  replace k2 := hI k2
  have T := hI (Bx3.new w2 #[.int .i64 0, .string ⟨#[]⟩, .string ⟨#[]⟩, .string ⟨#[]⟩, .string ⟨#[]⟩, .string ⟨#[]⟩, .slice none 0 0] #[.int .i64 0, .string ⟨#[]⟩, .string ⟨#[]⟩, .string ⟨#[]⟩, .string ⟨#[]⟩, .string ⟨#[]⟩, .slice none 0 0] #[.int .i64 0, .string ⟨#[]⟩, .string ⟨#[]⟩, .string ⟨#[]⟩, .string ⟨#[]⟩, .string ⟨#[]⟩, .slice none 0 0])
  try unfold zeroC at T
  go_wp2_with (first | (with_reducible refine sB (.tmp 3) (.tmp 13) k0.out T.out.b0 ?_) | (with_reducible refine sB (.tmp 4) (.tmp 14) k1.out T.out.n1 ?_) | (with_reducible refine sB (.tmp 5) (.tmp 15) k2.out T.out.n2 ?_; have P := Pt3.new (w := w2) (o0 := a.exp.ob) (o1 := .num (a.coef : Rat)) (o2 := a.rest.ob) (p0 := q0) (p1 := q1) (p2 := q2) (z0 := #[.int .i64 0, .string ⟨#[]⟩, .string ⟨#[]⟩, .string ⟨#[]⟩, .string ⟨#[]⟩, .string ⟨#[]⟩, .slice none 0 0]) (z1 := #[.int .i64 0, .string ⟨#[]⟩, .string ⟨#[]⟩, .string ⟨#[]⟩, .string ⟨#[]⟩, .string ⟨#[]⟩, .slice none 0 0]) (z2 := #[.int .i64 0, .string ⟨#[]⟩, .string ⟨#[]⟩, .string ⟨#[]⟩, .string ⟨#[]⟩, .string ⟨#[]⟩, .slice none 0 0]); generalize World.setRow (World.setRow (World.setRow (((w2.alloc (.cells #[.int .i64 0, .string ⟨#[]⟩, .string ⟨#[]⟩, .string ⟨#[]⟩, .string ⟨#[]⟩, .string ⟨#[]⟩, .slice none 0 0] 35)).alloc (.cells #[.int .i64 0, .string ⟨#[]⟩, .string ⟨#[]⟩, .string ⟨#[]⟩, .string ⟨#[]⟩, .string ⟨#[]⟩, .slice none 0 0] 35)).alloc (.cells #[.int .i64 0, .string ⟨#[]⟩, .string ⟨#[]⟩, .string ⟨#[]⟩, .string ⟨#[]⟩, .string ⟨#[]⟩, .slice none 0 0] 35)) (w2.heap.size) (cellsO (a.exp.ob) q0).toArray) (w2.heap.size + 1) (cellsO (.num (a.coef : Rat)) q1).toArray) (w2.heap.size + 1 + 1) (cellsO (a.rest.ob) q2).toArray = X2 at P ⊢; have hb := P.bel; replace B0 := kB B0 hb; replace K0 := kH K0 hb; replace R0 := kB R0 hb; replace HW := kW HW hb; replace HT := kT HT hb; replace k0 := kH k0 hb; replace k1 := kH k1 hb; replace k2 := kH k2 hb; have D0 := hI P.b0; have D1 := hI P.b1; have D2 := hI P.b2; clear P hb T) | (with_reducible refine sB (.tmp 2) (.tmp 16) k0.out R0.out ?_) | (with_reducible refine lG (.tmp 1) B0.out ?_) | (with_reducible refine lG (.tmp 3) D0.out ?_) | (with_reducible refine lG (.tmp 4) D1.out ?_) | (with_reducible refine lG (.tmp 5) D2.out ?_))
  exact retHs rfl rfl R0.out rfl k0.out (by omega) HW.out
set_option maxHeartbeats 4000000 in
set_option maxRecDepth 100000 in
theorem coefH (o : Ob) (p : Value) (w : World) (hb : o.bd 90) (hn : o.nodes ≤ 3000) (hp : Hd w o p) (ht : Tab w) :
 Calls Tryz.prog 27 #[vO o p] w (RetOZ w ((ordOf o).map fun a => .num (a.coef : Rat))) := by
 have HV : Hid (∀ X, Hd X o p → Tab X → Calls Tryz.prog 20 #[vO o p] X (RetB X (ordOf o).isSome)) := fun X h hT => validH o p X hb hn h hT
 cases ho : ordOf o with
 | none =>
  rw [ho] at HV
  show Calls _ _ _ _ (RetOZ w none)
  clear hb hn
  change Hid (∀ X, Hd X o p → Tab X → Calls Tryz.prog 20 #[vO o p] X (RetB X false)) at HV
  obtain ⟨a0, a1, a2, a3, a4, a5, ea⟩ := cells7 (o) p
  have T := Bx2.new w #[a0, a1, a2, a3, a4, a5, p] #[.int .i64 0, .string ⟨#[]⟩, .string ⟨#[]⟩, .string ⟨#[]⟩, .string ⟨#[]⟩, .string ⟨#[]⟩, .slice none 0 0]
  rw [vO_cells ea]
  go_enter Tryz.func27, Tryz.ntmps27
  go_wp2_with fail
  generalize (w.alloc (.cells #[a0, a1, a2, a3, a4, a5, p] 35)).alloc (.cells #[.int .i64 0, .string ⟨#[]⟩, .string ⟨#[]⟩, .string ⟨#[]⟩, .string ⟨#[]⟩, .string ⟨#[]⟩, .slice none 0 0] 35) = W at T ⊢
  have B0 : Hid (Bx W (w.heap.size) (cellsO (o) p).toArray) := by rw [ea]; exact T.b0
  have K0 := hI (hp.below T.bel)
  have R0 := hI T.b1
  have HW := hI T.bel
  have HT := hI (ht.below T.bel)
  try rw [← vO_cells ea]
  clear T ea hp ht
  with_reducible refine (HV.out _ K0.out HT.out).mono ?_
  rintro e w1 ⟨rfl, hb⟩
  replace B0 := kB B0 hb
  replace K0 := kH K0 hb
  replace R0 := kB R0 hb
  replace HW := kW HW hb
  replace HT := kT HT hb
  clear hb
  go_wp2_with (first | ((with_reducible refine storeZ (g := w.heap.size + 1) (.tmp 2) (.tmp 9) ?_ ?_ ?_ ?_ R0.out ?_); rfl; rfl; rfl; rfl) | (with_reducible refine lG (.tmp 1) B0.out ?_))
  exact retOZs rfl rfl R0.out (by omega) HW.out
 | some a =>
  rw [ho] at HV
  obtain ⟨nfa, ea⟩ := ordOf_some ho
  subst ea
  change Hid (∀ X, Hd X a.ob p → Tab X → Calls Tryz.prog 20 #[vO a.ob p] X (RetB X true)) at HV
  show Calls _ _ _ _ (RetH w (.num (a.coef : Rat)))
  clear hb hn ho
  obtain ⟨a0, a1, a2, a3, a4, a5, ea⟩ := cells7 (a.ob) p
  have T := Bx2.new w #[a0, a1, a2, a3, a4, a5, p] #[.int .i64 0, .string ⟨#[]⟩, .string ⟨#[]⟩, .string ⟨#[]⟩, .string ⟨#[]⟩, .string ⟨#[]⟩, .slice none 0 0]
  rw [vO_cells ea]
  go_enter Tryz.func27, Tryz.ntmps27
  go_wp2_with fail
  generalize (w.alloc (.cells #[a0, a1, a2, a3, a4, a5, p] 35)).alloc (.cells #[.int .i64 0, .string ⟨#[]⟩, .string ⟨#[]⟩, .string ⟨#[]⟩, .string ⟨#[]⟩, .string ⟨#[]⟩, .slice none 0 0] 35) = W at T ⊢
  have B0 : Hid (Bx W (w.heap.size) (cellsO (a.ob) p).toArray) := by rw [ea]; exact T.b0
  have K0 := hI (hp.below T.bel)
  have R0 := hI T.b1
  have HW := hI T.bel
  have HT := hI (ht.below T.bel)
  try rw [← vO_cells ea]
  clear T ea hp ht
  with_reducible refine (HV.out _ K0.out HT.out).mono ?_
  rintro e w1 ⟨rfl, hb⟩
  replace B0 := kB B0 hb
  replace K0 := kH K0 hb
  replace R0 := kB R0 hb
  replace HW := kW HW hb
  replace HT := kT HT hb
  clear hb
  go_wp2_with (with_reducible refine lG (.tmp 1) B0.out ?_)
  with_reducible refine (partsE a p _ K0.out HT.out).mono ?_
  rintro e w2 ⟨q0, q1, q2, rfl, k0, k1, k2, hb⟩
  replace B0 := kB B0 hb
  replace K0 := kH K0 hb
  replace R0 := kB R0 hb
  replace HW := kW HW hb
  replace HT := kT HT hb
  clear hb
  replace k0 := hI k0
  replace k1 := hI k1
  replace k2 := hI k2
  have T := hI (Bx3.new w2 #[.int .i64 0, .string ⟨#[]⟩, .string ⟨#[]⟩, .string ⟨#[]⟩, .string ⟨#[]⟩, .string ⟨#[]⟩, .slice none 0 0] #[.int .i64 0, .string ⟨#[]⟩, .string ⟨#[]⟩, .string ⟨#[]⟩, .string ⟨#[]⟩, .string ⟨#[]⟩, .slice none 0 0] #[.int .i64 0, .string ⟨#[]⟩, .string ⟨#[]⟩, .string ⟨#[]⟩, .string ⟨#[]⟩, .string ⟨#[]⟩, .slice none 0 0])
  try unfold zeroC at T
  go_wp2_with (first | (with_reducible refine sB (.tmp 3) (.tmp 13) k0.out T.out.b0 ?_) | (with_reducible refine sB (.tmp 4) (.tmp 14) k1.out T.out.n1 ?_) | (with_reducible refine sB (.tmp 5) (.tmp 15) k2.out T.out.n2 ?_; have P := Pt3.new (w := w2) (o0 := a.exp.ob) (o1 := .num (a.coef : Rat)) (o2 := a.rest.ob) (p0 := q0) (p1 := q1) (p2 := q2) (z0 := #[.int .i64 0, .string ⟨#[]⟩, .string ⟨#[]⟩, .string ⟨#[]⟩, .string ⟨#[]⟩, .string ⟨#[]⟩, .slice none 0 0]) (z1 := #[.int .i64 0, .string ⟨#[]⟩, .string ⟨#[]⟩, .string ⟨#[]⟩, .string ⟨#[]⟩, .string ⟨#[]⟩, .slice none 0 0]) (z2 := #[.int .i64 0, .string ⟨#[]⟩, .string ⟨#[]⟩, .string ⟨#[]⟩, .string ⟨#[]⟩, .string ⟨#[]⟩, .slice none 0 0]); generalize World.setRow (World.setRow (World.setRow (((w2.alloc (.cells #[.int .i64 0, .string ⟨#[]⟩, .string ⟨#[]⟩, .string ⟨#[]⟩, .string ⟨#[]⟩, .string ⟨#[]⟩, .slice none 0 0] 35)).alloc (.cells #[.int .i64 0, .string ⟨#[]⟩, .string ⟨#[]⟩, .string ⟨#[]⟩, .string ⟨#[]⟩, .string ⟨#[]⟩, .slice none 0 0] 35)).alloc (.cells #[.int .i64 0, .string ⟨#[]⟩, .string ⟨#[]⟩, .string ⟨#[]⟩, .string ⟨#[]⟩, .string ⟨#[]⟩, .slice none 0 0] 35)) (w2.heap.size) (cellsO (a.exp.ob) q0).toArray) (w2.heap.size + 1) (cellsO (.num (a.coef : Rat)) q1).toArray) (w2.heap.size + 1 + 1) (cellsO (a.rest.ob) q2).toArray = X2 at P ⊢; have hb := P.bel; replace B0 := kB B0 hb; replace K0 := kH K0 hb; replace R0 := kB R0 hb; replace HW := kW HW hb; replace HT := kT HT hb; replace k0 := kH k0 hb; replace k1 := kH k1 hb; replace k2 := kH k2 hb; have D0 := hI P.b0; have D1 := hI P.b1; have D2 := hI P.b2; clear P hb T) | (with_reducible refine sB (.tmp 2) (.tmp 16) k1.out R0.out ?_) | (with_reducible refine lG (.tmp 1) B0.out ?_) | (with_reducible refine lG (.tmp 3) D0.out ?_) | (with_reducible refine lG (.tmp 4) D1.out ?_) | (with_reducible refine lG (.tmp 5) D2.out ?_))
  exact retHs rfl rfl R0.out rfl k1.out (by omega) HW.out
set_option maxHeartbeats 4000000 in
set_option maxRecDepth 100000 in
theorem restH (o : Ob) (p : Value) (w : World) (hb : o.bd 90) (hn : o.nodes ≤ 3000) (hp : Hd w o p) (ht : Tab w) :
 Calls Tryz.prog 29 #[vO o p] w (RetOZ w ((ordOf o).map fun a => a.rest.ob)) := by
 have HV : Hid (∀ X, Hd X o p → Tab X → Calls Tryz.prog 20 #[vO o p] X (RetB X (ordOf o).isSome)) := fun X h hT => validH o p X hb hn h hT
 cases ho : ordOf o with
 | none =>
  rw [ho] at HV
  show Calls _ _ _ _ (RetOZ w none)
  clear hb hn
  change Hid (∀ X, Hd X o p → Tab X → Calls Tryz.prog 20 #[vO o p] X (RetB X false)) at HV
  obtain ⟨a0, a1, a2, a3, a4, a5, ea⟩ := cells7 (o) p
  have T := Bx2.new w #[a0, a1, a2, a3, a4, a5, p] #[.int .i64 0, .string ⟨#[]⟩, .string ⟨#[]⟩, .string ⟨#[]⟩, .string ⟨#[]⟩, .string ⟨#[]⟩, .slice none 0 0]
  rw [vO_cells ea]
  go_enter Tryz.func29, Tryz.ntmps29
  go_wp2_with fail
  generalize (w.alloc (.cells #[a0, a1, a2, a3, a4, a5, p] 35)).alloc (.cells #[.int .i64 0, .string ⟨#[]⟩, .string ⟨#[]⟩, .string ⟨#[]⟩, .string ⟨#[]⟩, .string ⟨#[]⟩, .slice none 0 0] 35) = W at T ⊢
  have B0 : Hid (Bx W (w.heap.size) (cellsO (o) p).toArray) := by rw [ea]; exact T.b0
  have K0 := hI (hp.below T.bel)
  have R0 := hI T.b1
  have HW := hI T.bel
  have HT := hI (ht.below T.bel)
  try rw [← vO_cells ea]
  clear T ea hp ht
  with_reducible refine (HV.out _ K0.out HT.out).mono ?_
  rintro e w1 ⟨rfl, hb⟩
  replace B0 := kB B0 hb
  replace K0 := kH K0 hb
  replace R0 := kB R0 hb
  replace HW := kW HW hb
  replace HT := kT HT hb
  clear hb
  go_wp2_with (first | ((with_reducible refine storeZ (g := w.heap.size + 1) (.tmp 2) (.tmp 9) ?_ ?_ ?_ ?_ R0.out ?_); rfl; rfl; rfl; rfl) | (with_reducible refine lG (.tmp 1) B0.out ?_))
  exact retOZs rfl rfl R0.out (by omega) HW.out
 | some a =>
  rw [ho] at HV
  obtain ⟨nfa, ea⟩ := ordOf_some ho
  subst ea
  change Hid (∀ X, Hd X a.ob p → Tab X → Calls Tryz.prog 20 #[vO a.ob p] X (RetB X true)) at HV
  show Calls _ _ _ _ (RetH w (a.rest.ob))
  clear hb hn ho
  obtain ⟨a0, a1, a2, a3, a4, a5, ea⟩ := cells7 (a.ob) p
  have T := Bx2.new w #[a0, a1, a2, a3, a4, a5, p] #[.int .i64 0, .string ⟨#[]⟩, .string ⟨#[]⟩, .string ⟨#[]⟩, .string ⟨#[]⟩, .string ⟨#[]⟩, .slice none 0 0]
  rw [vO_cells ea]
  go_enter Tryz.func29, Tryz.ntmps29
  go_wp2_with fail
  generalize (w.alloc (.cells #[a0, a1, a2, a3, a4, a5, p] 35)).alloc (.cells #[.int .i64 0, .string ⟨#[]⟩, .string ⟨#[]⟩, .string ⟨#[]⟩, .string ⟨#[]⟩, .string ⟨#[]⟩, .slice none 0 0] 35) = W at T ⊢
  have B0 : Hid (Bx W (w.heap.size) (cellsO (a.ob) p).toArray) := by rw [ea]; exact T.b0
  have K0 := hI (hp.below T.bel)
  have R0 := hI T.b1
  have HW := hI T.bel
  have HT := hI (ht.below T.bel)
  try rw [← vO_cells ea]
  clear T ea hp ht
  with_reducible refine (HV.out _ K0.out HT.out).mono ?_
  rintro e w1 ⟨rfl, hb⟩
  replace B0 := kB B0 hb
  replace K0 := kH K0 hb
  replace R0 := kB R0 hb
  replace HW := kW HW hb
  replace HT := kT HT hb
  clear hb
  go_wp2_with (with_reducible refine lG (.tmp 1) B0.out ?_)
  with_reducible refine (partsE a p _ K0.out HT.out).mono ?_
  rintro e w2 ⟨q0, q1, q2, rfl, k0, k1, k2, hb⟩
  replace B0 := kB B0 hb
  replace K0 := kH K0 hb
  replace R0 := kB R0 hb
  replace HW := kW HW hb
  replace HT := kT HT hb
  clear hb
  replace k0 := hI k0
  replace k1 := hI k1
  replace k2 := hI k2
  have T := hI (Bx3.new w2 #[.int .i64 0, .string ⟨#[]⟩, .string ⟨#[]⟩, .string ⟨#[]⟩, .string ⟨#[]⟩, .string ⟨#[]⟩, .slice none 0 0] #[.int .i64 0, .string ⟨#[]⟩, .string ⟨#[]⟩, .string ⟨#[]⟩, .string ⟨#[]⟩, .string ⟨#[]⟩, .slice none 0 0] #[.int .i64 0, .string ⟨#[]⟩, .string ⟨#[]⟩, .string ⟨#[]⟩, .string ⟨#[]⟩, .string ⟨#[]⟩, .slice none 0 0])
  try unfold zeroC at T
  go_wp2_with (first | (with_reducible refine sB (.tmp 3) (.tmp 13) k0.out T.out.b0 ?_) | (with_reducible refine sB (.tmp 4) (.tmp 14) k1.out T.out.n1 ?_) | (with_reducible refine sB (.tmp 5) (.tmp 15) k2.out T.out.n2 ?_; have P := Pt3.new (w := w2) (o0 := a.exp.ob) (o1 := .num (a.coef : Rat)) (o2 := a.rest.ob) (p0 := q0) (p1 := q1) (p2 := q2) (z0 := #[.int .i64 0, .string ⟨#[]⟩, .string ⟨#[]⟩, .string ⟨#[]⟩, .string ⟨#[]⟩, .string ⟨#[]⟩, .slice none 0 0]) (z1 := #[.int .i64 0, .string ⟨#[]⟩, .string ⟨#[]⟩, .string ⟨#[]⟩, .string ⟨#[]⟩, .string ⟨#[]⟩, .slice none 0 0]) (z2 := #[.int .i64 0, .string ⟨#[]⟩, .string ⟨#[]⟩, .string ⟨#[]⟩, .string ⟨#[]⟩, .string ⟨#[]⟩, .slice none 0 0]); generalize World.setRow (World.setRow (World.setRow (((w2.alloc (.cells #[.int .i64 0, .string ⟨#[]⟩, .string ⟨#[]⟩, .string ⟨#[]⟩, .string ⟨#[]⟩, .string ⟨#[]⟩, .slice none 0 0] 35)).alloc (.cells #[.int .i64 0, .string ⟨#[]⟩, .string ⟨#[]⟩, .string ⟨#[]⟩, .string ⟨#[]⟩, .string ⟨#[]⟩, .slice none 0 0] 35)).alloc (.cells #[.int .i64 0, .string ⟨#[]⟩, .string ⟨#[]⟩, .string ⟨#[]⟩, .string ⟨#[]⟩, .string ⟨#[]⟩, .slice none 0 0] 35)) (w2.heap.size) (cellsO (a.exp.ob) q0).toArray) (w2.heap.size + 1) (cellsO (.num (a.coef : Rat)) q1).toArray) (w2.heap.size + 1 + 1) (cellsO (a.rest.ob) q2).toArray = X2 at P ⊢; have hb := P.bel; replace B0 := kB B0 hb; replace K0 := kH K0 hb; replace R0 := kB R0 hb; replace HW := kW HW hb; replace HT := kT HT hb; replace k0 := kH k0 hb; replace k1 := kH k1 hb; replace k2 := kH k2 hb; have D0 := hI P.b0; have D1 := hI P.b1; have D2 := hI P.b2; clear P hb T) | (with_reducible refine sB (.tmp 2) (.tmp 16) k2.out R0.out ?_) | (with_reducible refine lG (.tmp 1) B0.out ?_) | (with_reducible refine lG (.tmp 3) D0.out ?_) | (with_reducible refine lG (.tmp 4) D1.out ?_) | (with_reducible refine lG (.tmp 5) D2.out ?_))
  exact retHs rfl rfl R0.out rfl k2.out (by omega) HW.out
set_option maxHeartbeats 4000000 in
set_option maxRecDepth 100000 in
theorem expoR (o : Ob) (p : Value) (w : World) (hb : o.bd 90) (hn : o.nodes ≤ 3000) (hp : Hd w o p) (ht : Tab w) :
 Calls Tryz.prog 26 #[vO o p] w (RetOZ w ((ordOf o).map fun a => a.exp.ob)) := by
 have HV : Hid (∀ X, Hd X o p → Tab X → Calls Tryz.prog 21 #[vO o p] X (RetB X (ordOf o).isSome)) := fun X h hT => validR3 o p X hb hn h hT
 cases ho : ordOf o with
 | none =>
  rw [ho] at HV
  show Calls _ _ _ _ (RetOZ w none)
  clear hb hn
  change Hid (∀ X, Hd X o p → Tab X → Calls Tryz.prog 21 #[vO o p] X (RetB X false)) at HV
  obtain ⟨a0, a1, a2, a3, a4, a5, ea⟩ := cells7 (o) p
  have T := Bx2.new w #[a0, a1, a2, a3, a4, a5, p] #[.int .i64 0, .string ⟨#[]⟩, .string ⟨#[]⟩, .string ⟨#[]⟩, .string ⟨#[]⟩, .string ⟨#[]⟩, .slice none 0 0]
  rw [vO_cells ea]
  go_enter Tryz.func26, Tryz.ntmps26
  go_wp2_with fail
  generalize (w.alloc (.cells #[a0, a1, a2, a3, a4, a5, p] 35)).alloc (.cells #[.int .i64 0, .string ⟨#[]⟩, .string ⟨#[]⟩, .string ⟨#[]⟩, .string ⟨#[]⟩, .string ⟨#[]⟩, .slice none 0 0] 35) = W at T ⊢
  have B0 : Hid (Bx W (w.heap.size) (cellsO (o) p).toArray) := by rw [ea]; exact T.b0
  have K0 := hI (hp.below T.bel)
  have R0 := hI T.b1
  have HW := hI T.bel
  have HT := hI (ht.below T.bel)
  try rw [← vO_cells ea]
  clear T ea hp ht
  with_reducible refine (HV.out _ K0.out HT.out).mono ?_
  rintro e w1 ⟨rfl, hb⟩
  replace B0 := kB B0 hb
  replace K0 := kH K0 hb
  replace R0 := kB R0 hb
  replace HW := kW HW hb
  replace HT := kT HT hb
  clear hb
  go_wp2_with (first | ((with_reducible refine storeZ (g := w.heap.size + 1) (.tmp 2) (.tmp 6) ?_ ?_ ?_ ?_ R0.out ?_); rfl; rfl; rfl; rfl) | (with_reducible refine lG (.tmp 1) B0.out ?_))
  exact retOZs rfl rfl R0.out (by omega) HW.out
 | some a =>
  rw [ho] at HV
  obtain ⟨nfa, ea⟩ := ordOf_some ho
  subst ea
  change Hid (∀ X, Hd X a.ob p → Tab X → Calls Tryz.prog 21 #[vO a.ob p] X (RetB X true)) at HV
  show Calls _ _ _ _ (RetH w (a.exp.ob))
  clear hb hn ho
  obtain ⟨a0, a1, a2, a3, a4, a5, ea⟩ := cells7 (a.ob) p
  have T := Bx2.new w #[a0, a1, a2, a3, a4, a5, p] #[.int .i64 0, .string ⟨#[]⟩, .string ⟨#[]⟩, .string ⟨#[]⟩, .string ⟨#[]⟩, .string ⟨#[]⟩, .slice none 0 0]
  rw [vO_cells ea]
  go_enter Tryz.func26, Tryz.ntmps26
  go_wp2_with fail
  generalize (w.alloc (.cells #[a0, a1, a2, a3, a4, a5, p] 35)).alloc (.cells #[.int .i64 0, .string ⟨#[]⟩, .string ⟨#[]⟩, .string ⟨#[]⟩, .string ⟨#[]⟩, .string ⟨#[]⟩, .slice none 0 0] 35) = W at T ⊢
  have B0 : Hid (Bx W (w.heap.size) (cellsO (a.ob) p).toArray) := by rw [ea]; exact T.b0
  have K0 := hI (hp.below T.bel)
  have R0 := hI T.b1
  have HW := hI T.bel
  have HT := hI (ht.below T.bel)
  try rw [← vO_cells ea]
  clear T ea hp ht
  with_reducible refine (HV.out _ K0.out HT.out).mono ?_
  rintro e w1 ⟨rfl, hb⟩
  replace B0 := kB B0 hb
  replace K0 := kH K0 hb
  replace R0 := kB R0 hb
  replace HW := kW HW hb
  replace HT := kT HT hb
  clear hb
  go_wp2_with (with_reducible refine lG (.tmp 1) B0.out ?_)
  with_reducible refine (expE a p _ K0.out HT.out).mono ?_
  rintro e w2 ⟨q, rfl, k, hb⟩
  replace B0 := kB B0 hb
  replace K0 := kH K0 hb
  replace R0 := kB R0 hb
  replace HW := kW HW hb
  replace HT := kT HT hb
  clear hb
  replace k := hI k
  go_wp2_with (first | (with_reducible refine sB (.tmp 2) (.tmp 8) k.out R0.out ?_) | (with_reducible refine lG (.tmp 1) B0.out ?_))
  exact retHs rfl rfl R0.out rfl k.out (by omega) HW.out
set_option maxHeartbeats 4000000 in
set_option maxRecDepth 100000 in
theorem coefR (o : Ob) (p : Value) (w : World) (hb : o.bd 90) (hn : o.nodes ≤ 3000) (hp : Hd w o p) (ht : Tab w) :
 Calls Tryz.prog 28 #[vO o p] w (RetOZ w ((ordOf o).map fun a => .num (a.coef : Rat))) := by
 have HV : Hid (∀ X, Hd X o p → Tab X → Calls Tryz.prog 21 #[vO o p] X (RetB X (ordOf o).isSome)) := fun X h hT => validR3 o p X hb hn h hT
 cases ho : ordOf o with
 | none =>
  rw [ho] at HV
  show Calls _ _ _ _ (RetOZ w none)
  clear hb hn
  change Hid (∀ X, Hd X o p → Tab X → Calls Tryz.prog 21 #[vO o p] X (RetB X false)) at HV
  obtain ⟨a0, a1, a2, a3, a4, a5, ea⟩ := cells7 (o) p
  have T := Bx2.new w #[a0, a1, a2, a3, a4, a5, p] #[.int .i64 0, .string ⟨#[]⟩, .string ⟨#[]⟩, .string ⟨#[]⟩, .string ⟨#[]⟩, .string ⟨#[]⟩, .slice none 0 0]
  rw [vO_cells ea]
  go_enter Tryz.func28, Tryz.ntmps28
  go_wp2_with fail
  generalize (w.alloc (.cells #[a0, a1, a2, a3, a4, a5, p] 35)).alloc (.cells #[.int .i64 0, .string ⟨#[]⟩, .string ⟨#[]⟩, .string ⟨#[]⟩, .string ⟨#[]⟩, .string ⟨#[]⟩, .slice none 0 0] 35) = W at T ⊢
  have B0 : Hid (Bx W (w.heap.size) (cellsO (o) p).toArray) := by rw [ea]; exact T.b0
  have K0 := hI (hp.below T.bel)
  have R0 := hI T.b1
  have HW := hI T.bel
  have HT := hI (ht.below T.bel)
  try rw [← vO_cells ea]
  clear T ea hp ht
  with_reducible refine (HV.out _ K0.out HT.out).mono ?_
  rintro e w1 ⟨rfl, hb⟩
  replace B0 := kB B0 hb
  replace K0 := kH K0 hb
  replace R0 := kB R0 hb
  replace HW := kW HW hb
  replace HT := kT HT hb
  clear hb
  go_wp2_with (first | ((with_reducible refine storeZ (g := w.heap.size + 1) (.tmp 2) (.tmp 6) ?_ ?_ ?_ ?_ R0.out ?_); rfl; rfl; rfl; rfl) | (with_reducible refine lG (.tmp 1) B0.out ?_))
  exact retOZs rfl rfl R0.out (by omega) HW.out
 | some a =>
  rw [ho] at HV
  obtain ⟨nfa, ea⟩ := ordOf_some ho
  subst ea
  change Hid (∀ X, Hd X a.ob p → Tab X → Calls Tryz.prog 21 #[vO a.ob p] X (RetB X true)) at HV
  show Calls _ _ _ _ (RetH w (.num (a.coef : Rat)))
  clear hb hn ho
  obtain ⟨a0, a1, a2, a3, a4, a5, ea⟩ := cells7 (a.ob) p
  have T := Bx2.new w #[a0, a1, a2, a3, a4, a5, p] #[.int .i64 0, .string ⟨#[]⟩, .string ⟨#[]⟩, .string ⟨#[]⟩, .string ⟨#[]⟩, .string ⟨#[]⟩, .slice none 0 0]
  rw [vO_cells ea]
  go_enter Tryz.func28, Tryz.ntmps28
  go_wp2_with fail
  generalize (w.alloc (.cells #[a0, a1, a2, a3, a4, a5, p] 35)).alloc (.cells #[.int .i64 0, .string ⟨#[]⟩, .string ⟨#[]⟩, .string ⟨#[]⟩, .string ⟨#[]⟩, .string ⟨#[]⟩, .slice none 0 0] 35) = W at T ⊢
  have B0 : Hid (Bx W (w.heap.size) (cellsO (a.ob) p).toArray) := by rw [ea]; exact T.b0
  have K0 := hI (hp.below T.bel)
  have R0 := hI T.b1
  have HW := hI T.bel
  have HT := hI (ht.below T.bel)
  try rw [← vO_cells ea]
  clear T ea hp ht
  with_reducible refine (HV.out _ K0.out HT.out).mono ?_
  rintro e w1 ⟨rfl, hb⟩
  replace B0 := kB B0 hb
  replace K0 := kH K0 hb
  replace R0 := kB R0 hb
  replace HW := kW HW hb
  replace HT := kT HT hb
  clear hb
  go_wp2_with (with_reducible refine lG (.tmp 1) B0.out ?_)
  with_reducible refine (coeE a p _ K0.out HT.out).mono ?_
  rintro e w2 ⟨q, rfl, k, hb⟩
  replace B0 := kB B0 hb
  replace K0 := kH K0 hb
  replace R0 := kB R0 hb
  replace HW := kW HW hb
  replace HT := kT HT hb
  clear hb
  replace k := hI k
  go_wp2_with (first | (with_reducible refine sB (.tmp 2) (.tmp 8) k.out R0.out ?_) | (with_reducible refine lG (.tmp 1) B0.out ?_))
  exact retHs rfl rfl R0.out rfl k.out (by omega) HW.out
set_option maxHeartbeats 4000000 in
set_option maxRecDepth 100000 in
theorem restR (o : Ob) (p : Value) (w : World) (hb : o.bd 90) (hn : o.nodes ≤ 3000) (hp : Hd w o p) (ht : Tab w) :
 Calls Tryz.prog 30 #[vO o p] w (RetOZ w ((ordOf o).map fun a => a.rest.ob)) := by
 have HV : Hid (∀ X, Hd X o p → Tab X → Calls Tryz.prog 21 #[vO o p] X (RetB X (ordOf o).isSome)) := fun X h hT => validR3 o p X hb hn h hT
 cases ho : ordOf o with
 | none =>
  rw [ho] at HV
  show Calls _ _ _ _ (RetOZ w none)
  clear hb hn
  change Hid (∀ X, Hd X o p → Tab X → Calls Tryz.prog 21 #[vO o p] X (RetB X false)) at HV
  obtain ⟨a0, a1, a2, a3, a4, a5, ea⟩ := cells7 (o) p
  have T := Bx2.new w #[a0, a1, a2, a3, a4, a5, p] #[.int .i64 0, .string ⟨#[]⟩, .string ⟨#[]⟩, .string ⟨#[]⟩, .string ⟨#[]⟩, .string ⟨#[]⟩, .slice none 0 0]
  rw [vO_cells ea]
  go_enter Tryz.func30, Tryz.ntmps30
  go_wp2_with fail
  generalize (w.alloc (.cells #[a0, a1, a2, a3, a4, a5, p] 35)).alloc (.cells #[.int .i64 0, .string ⟨#[]⟩, .string ⟨#[]⟩, .string ⟨#[]⟩, .string ⟨#[]⟩, .string ⟨#[]⟩, .slice none 0 0] 35) = W at T ⊢
  have B0 : Hid (Bx W (w.heap.size) (cellsO (o) p).toArray) := by rw [ea]; exact T.b0
  have K0 := hI (hp.below T.bel)
  have R0 := hI T.b1
  have HW := hI T.bel
  have HT := hI (ht.below T.bel)
  try rw [← vO_cells ea]
  clear T ea hp ht
  with_reducible refine (HV.out _ K0.out HT.out).mono ?_
  rintro e w1 ⟨rfl, hb⟩
  replace B0 := kB B0 hb
  replace K0 := kH K0 hb
  replace R0 := kB R0 hb
  replace HW := kW HW hb
  replace HT := kT HT hb
  clear hb
  go_wp2_with (first | ((with_reducible refine storeZ (g := w.heap.size + 1) (.tmp 2) (.tmp 6) ?_ ?_ ?_ ?_ R0.out ?_); rfl; rfl; rfl; rfl) | (with_reducible refine lG (.tmp 1) B0.out ?_))
  exact retOZs rfl rfl R0.out (by omega) HW.out
 | some a =>
  rw [ho] at HV
  obtain ⟨nfa, ea⟩ := ordOf_some ho
  subst ea
  change Hid (∀ X, Hd X a.ob p → Tab X → Calls Tryz.prog 21 #[vO a.ob p] X (RetB X true)) at HV
  show Calls _ _ _ _ (RetH w (a.rest.ob))
  clear hb hn ho
  obtain ⟨a0, a1, a2, a3, a4, a5, ea⟩ := cells7 (a.ob) p
  have T := Bx2.new w #[a0, a1, a2, a3, a4, a5, p] #[.int .i64 0, .string ⟨#[]⟩, .string ⟨#[]⟩, .string ⟨#[]⟩, .string ⟨#[]⟩, .string ⟨#[]⟩, .slice none 0 0]
  rw [vO_cells ea]
  go_enter Tryz.func30, Tryz.ntmps30
  go_wp2_with fail
  generalize (w.alloc (.cells #[a0, a1, a2, a3, a4, a5, p] 35)).alloc (.cells #[.int .i64 0, .string ⟨#[]⟩, .string ⟨#[]⟩, .string ⟨#[]⟩, .string ⟨#[]⟩, .string ⟨#[]⟩, .slice none 0 0] 35) = W at T ⊢
  have B0 : Hid (Bx W (w.heap.size) (cellsO (a.ob) p).toArray) := by rw [ea]; exact T.b0
  have K0 := hI (hp.below T.bel)
  have R0 := hI T.b1
  have HW := hI T.bel
  have HT := hI (ht.below T.bel)
  try rw [← vO_cells ea]
  clear T ea hp ht
  with_reducible refine (HV.out _ K0.out HT.out).mono ?_
  rintro e w1 ⟨rfl, hb⟩
  replace B0 := kB B0 hb
  replace K0 := kH K0 hb
  replace R0 := kB R0 hb
  replace HW := kW HW hb
  replace HT := kT HT hb
  clear hb
  go_wp2_with (with_reducible refine lG (.tmp 1) B0.out ?_)
  with_reducible refine (rstE a p _ K0.out HT.out).mono ?_
  rintro e w2 ⟨q, rfl, k, hb⟩
  replace B0 := kB B0 hb
  replace K0 := kH K0 hb
  replace R0 := kB R0 hb
  replace HW := kW HW hb
  replace HT := kT HT hb
  clear hb
  replace k := hI k
  go_wp2_with (first | (with_reducible refine sB (.tmp 2) (.tmp 8) k.out R0.out ?_) | (with_reducible refine lG (.tmp 1) B0.out ?_))
  exact retHs rfl rfl R0.out rfl k.out (by omega) HW.out
theorem partsFinB {a : On} (h : a.ob.nat.isSome = true) : ordOf (.cons (.cons a.exp.ob (.num (a.coef : Rat))) a.rest.ob) = none := by
 cases a with
 | fin m =>
  have h1 : ordOf (On.fin 0).ob = some (.fin 0) := ordOf_ob (a := .fin 0) trivial
  show ordOf (.cons (.cons (On.fin 0).ob (.num (m : Rat))) (On.fin 0).ob) = none
  unfold ordOf
  rw [h1, Ob.nat_num]
  simp
 | pw e c r => simp [On.ob, Ob.nat] at h
theorem partsInfB {a : On} (h : a.ob.nat.isSome = false) : Ob.cons (.cons a.exp.ob (.num (a.coef : Rat))) a.rest.ob = a.ob := by
 cases a with
 | fin m =>
  have h2 : (On.fin m).ob.nat = some m := Ob.nat_num m
  rw [h2] at h
  cases h
 | pw e c r => rfl
theorem partsBd {a : On} (h : a.bd 84) : Ob.bd 90 (.cons (.cons a.exp.ob (.num (a.coef : Rat))) a.rest.ob) := by
 have hc : (On.fin a.coef).bd 84 := by
  cases a with
  | fin n => exact h
  | pw e c r => exact h.2.1
 exact ⟨⟨On.ob_bd (On.bd_exp h) (by omega), On.ob_bd hc (by omega)⟩, On.ob_bd (On.bd_rest h) (by omega)⟩
theorem partsNd {a : On} (h : a.nd ≤ 45) : Ob.nodes (.cons (.cons a.exp.ob (.num (a.coef : Rat))) a.rest.ob) ≤ 3000 := by
 have h1 := On.nd_exp a
 have h2 := On.nd_rest a
 show 1 + (1 + a.exp.ob.nodes + 1) + a.rest.ob.nodes ≤ 3000
 rw [On.nd_ob, On.nd_ob]
 omega
def LZ (m : Option Ob) : Lv := fun v _ _ w => (∃ o p, m = some o ∧ v = vO o p ∧ Hd w o p) ∨ (m = none ∧ v = .agg zeroC)
theorem mLZ (m : Option Ob) : Mon (LZ m) := fun _ _ _ _ _ h _ hb => by
 rcases h with ⟨o, p, h1, h2, h3⟩ | h
 · exact .inl ⟨o, p, h1, h2, h3.below hb⟩
 · exact .inr h
theorem RetOZ.lz {w w' : World} {m : Option Ob} {e : Ending} (h : RetOZ w m e w') : ∃ u, e = .returned u ∧ (∀ lo hi, LZ m u lo hi w') ∧ Below w.heap.size w w' := by
 cases m with
 | none => exact ⟨_, h.1, fun _ _ => .inr ⟨rfl, rfl⟩, h.2⟩
 | some o =>
  obtain ⟨p, h1, h2, h3⟩ := h
  exact ⟨_, h1, fun _ _ => .inl ⟨o, p, rfl, rfl, h2⟩, h3⟩
theorem equalLZ {m : Option Ob} {u v : Value} {lo hi lo' hi' : Nat} {w : World} (h : LZ m u lo hi w) (h' : LZ m v lo' hi' w) : Calls Tryz.prog 24 #[u, v] w (RetB w true) := by
 rcases h with ⟨o, p, rfl, rfl, hp⟩ | ⟨rfl, rfl⟩
 · rcases h' with ⟨o', p', e, rfl, hp'⟩ | ⟨e, _⟩
   · injection e with e
     subst e
     exact equalH o o p p' w true (decide_eq_true rfl) hp hp'
   · cases e
 · rcases h' with ⟨o', p', e, _⟩ | ⟨_, rfl⟩
   · cases e
   · exact equalZ w
end Go.Proofs.YtobjdkblpjmbjaaGreatDoor
