import Derived.Test.YtbffnoodpoagcaaGreatDoorAl
import Derived.Test.YtbffnoodpoagcaaGreatDoorH26
namespace Go.Proofs.YtbffnoodpoagcaaGreatDoor
open Go Go.RowKit
set_option linter.unusedVariables false
set_option maxHeartbeats 4000000 in
set_option maxRecDepth 100000 in
theorem oneConsp (x : Ob) (p : Value) (w : World) (hx : Hd w x p) (ht : Tab w) : Calls Tryz.prog 41 #[.string ⟨#[99, 111, 110, 115, 112]⟩, vO x p] w (RetH w (trO x.isCons)) := by
 rw [← kd_cons]
 have CA : Hid (∀ W, Calls Tryz.prog 64 #[.bool (x.kd == 4)] W (RetH W (trO (x.kd == 4)))) := fun W => truthR _ W
 generalize trO (x.kd == 4) = res at CA ⊢
 have CF : Hid (∀ W, Tab W → Calls Tryz.prog 62 #[vO x p] W (RetH W (.num x.fix))) := fun W h => (fixR x p W (fun q e => by subst e; exact hx.flat rfl) h).mono fun _ _ h => h.h
 obtain ⟨a0, a1, a2, a3, a4, a5, ea⟩ := cells7 (x) p
 have T := Bx2.new w #[a0, a1, a2, a3, a4, a5, p] #[.int .i64 0, .string ⟨#[]⟩, .string ⟨#[]⟩, .string ⟨#[]⟩, .string ⟨#[]⟩, .string ⟨#[]⟩, .slice none 0 0]
 rw [vO_cells ea]
 go_enter Tryz.func41, Tryz.ntmps41
 go_upto_region 1 with fail
 generalize (w.alloc (.cells #[a0, a1, a2, a3, a4, a5, p] 27)).alloc (.cells #[.int .i64 0, .string ⟨#[]⟩, .string ⟨#[]⟩, .string ⟨#[]⟩, .string ⟨#[]⟩, .string ⟨#[]⟩, .slice none 0 0] 27) = W at T ⊢
 have B0 : Hid (Bx W (w.heap.size) (cellsO (x) p).toArray) := by rw [ea]; exact T.b0
 have K0 := qh9 (hx.below T.bel)
 have R0 := qh9 T.b1
 have HW := qh9 T.bel
 have HT := qh9 (ht.below T.bel)
 try rw [← vO_cells ea]
 clear T ea hx ht
 go_wp2_with (first | ((with_reducible refine loadB (.tmp 3) ?_ ?_ ?_ B0.out ?_); rfl; rfl; rfl) | ((with_reducible refine loadG (.tmp 3) ?_ ?_ ?_ B0.out ?_); rfl; rfl; rfl))
 with_reducible refine (CF.out _ HT.out).mono ?_
 rintro e w1 ⟨pf, rfl, kf, hb⟩
 replace B0 := qh9 (B0.out.keep hb)
 replace K0 := qh9 (K0.out.below hb)
 replace R0 := qh9 (R0.out.keep hb)
 replace HW := qc9 HW hb
 replace HT := qh9 (HT.out.below hb)
 clear hb
 replace kf := qh9 kf
 obtain rfl : pf = .slice none 0 0 := kf.out.flat rfl
 clear CF
 have T := qh9 (Bx1.new w1 #[.int .i64 0, .string ⟨#[]⟩, .string ⟨#[]⟩, .string ⟨#[]⟩, .string ⟨#[]⟩, .string ⟨#[]⟩, .slice none 0 0])
 go_upto_region 2 with ((with_reducible refine storeB (w1 := w1) (g := w1.heap.size) (b := .num x.fix) (p := (.slice none 0 0)) (.tmp 5) (.tmp 11) ?_ ?_ ?_ ?_ kf.out T.out.b0 ?_); rfl; rfl; rfl; rfl)
 have Q := Pt1.new (w := w1) (o := .num x.fix) (p := (.slice none 0 0)) (z := #[.int .i64 0, .string ⟨#[]⟩, .string ⟨#[]⟩, .string ⟨#[]⟩, .string ⟨#[]⟩, .string ⟨#[]⟩, .slice none 0 0])
 generalize World.setRow (w1.alloc (.cells #[.int .i64 0, .string ⟨#[]⟩, .string ⟨#[]⟩, .string ⟨#[]⟩, .string ⟨#[]⟩, .string ⟨#[]⟩, .slice none 0 0] 27)) w1.heap.size (cellsO (.num x.fix) (.slice none 0 0)).toArray = X1 at Q ⊢
 have hb := Q.bel
 replace B0 := qh9 (B0.out.keep hb)
 replace K0 := qh9 (K0.out.below hb)
 replace R0 := qh9 (R0.out.keep hb)
 replace HW := qc9 HW hb
 replace HT := qh9 (HT.out.below hb)
 replace kf := qh9 (kf.out.below hb)
 have F1 := qh9 Q.b0
 clear Q hb T
 go_upto_region 11 with fail
 obtain ⟨m0, m1, m2, m3, m4, m5, m6⟩ := Bx.c (BxK B0.out)
 clear m1 m2 m3 m4 m5 m6
 generalize x.kd = k at m0 CA
 go_wp2_with (first | ((with_reducible refine loadB (.tmp 3) ?_ ?_ ?_ B0.out ?_); rfl; rfl; rfl) | ((with_reducible refine loadB (.tmp 5) ?_ ?_ ?_ F1.out ?_); rfl; rfl; rfl) | ((with_reducible refine loadG (.tmp 3) ?_ ?_ ?_ B0.out ?_); rfl; rfl; rfl) | ((with_reducible refine loadG (.tmp 5) ?_ ?_ ?_ F1.out ?_); rfl; rfl; rfl))
 with_reducible refine (CA.out _).mono ?_
 rintro e w2 ⟨pr, rfl, kr, hb⟩
 replace B0 := qh9 (B0.out.keep hb)
 replace K0 := qh9 (K0.out.below hb)
 replace R0 := qh9 (R0.out.keep hb)
 replace HW := qc9 HW hb
 replace HT := qh9 (HT.out.below hb)
 replace kf := qh9 (kf.out.below hb)
 replace F1 := qh9 (F1.out.keep hb)
 clear hb
 replace kr := qh9 kr
 go_wp2_with (first | ((with_reducible refine storeB (w1 := w2) (g := w.heap.size + 1) (b := res) (p := pr) (.tmp 4) (.tmp 35) ?_ ?_ ?_ ?_ kr.out R0.out ?_); rfl; rfl; rfl; rfl) | ((with_reducible refine loadB (.tmp 3) ?_ ?_ ?_ B0.out ?_); rfl; rfl; rfl) | ((with_reducible refine loadB (.tmp 5) ?_ ?_ ?_ F1.out ?_); rfl; rfl; rfl) | ((with_reducible refine loadG (.tmp 3) ?_ ?_ ?_ B0.out ?_); rfl; rfl; rfl) | ((with_reducible refine loadG (.tmp 5) ?_ ?_ ?_ F1.out ?_); rfl; rfl; rfl))
 exact retHs rfl rfl R0.out rfl kr.out (by omega) HW.out
set_option maxHeartbeats 4000000 in
set_option maxRecDepth 100000 in
theorem oneSymbolp (x : Ob) (p : Value) (w : World) (hx : Hd w x p) (ht : Tab w) : Calls Tryz.prog 41 #[.string ⟨#[115, 121, 109, 98, 111, 108, 112]⟩, vO x p] w (RetH w (trO x.isSymB)) := by
 rw [← kd_sym]
 have CA : Hid (∀ W, Calls Tryz.prog 64 #[.bool (x.kd == 2)] W (RetH W (trO (x.kd == 2)))) := fun W => truthR _ W
 generalize trO (x.kd == 2) = res at CA ⊢
 have CF : Hid (∀ W, Tab W → Calls Tryz.prog 62 #[vO x p] W (RetH W (.num x.fix))) := fun W h => (fixR x p W (fun q e => by subst e; exact hx.flat rfl) h).mono fun _ _ h => h.h
 obtain ⟨a0, a1, a2, a3, a4, a5, ea⟩ := cells7 (x) p
 have T := Bx2.new w #[a0, a1, a2, a3, a4, a5, p] #[.int .i64 0, .string ⟨#[]⟩, .string ⟨#[]⟩, .string ⟨#[]⟩, .string ⟨#[]⟩, .string ⟨#[]⟩, .slice none 0 0]
 rw [vO_cells ea]
 go_enter Tryz.func41, Tryz.ntmps41
 go_upto_region 1 with fail
 generalize (w.alloc (.cells #[a0, a1, a2, a3, a4, a5, p] 27)).alloc (.cells #[.int .i64 0, .string ⟨#[]⟩, .string ⟨#[]⟩, .string ⟨#[]⟩, .string ⟨#[]⟩, .string ⟨#[]⟩, .slice none 0 0] 27) = W at T ⊢
 have B0 : Hid (Bx W (w.heap.size) (cellsO (x) p).toArray) := by rw [ea]; exact T.b0
 have K0 := qh9 (hx.below T.bel)
 have R0 := qh9 T.b1
 have HW := qh9 T.bel
 have HT := qh9 (ht.below T.bel)
 try rw [← vO_cells ea]
 clear T ea hx ht
 go_wp2_with (first | ((with_reducible refine loadB (.tmp 3) ?_ ?_ ?_ B0.out ?_); rfl; rfl; rfl) | ((with_reducible refine loadG (.tmp 3) ?_ ?_ ?_ B0.out ?_); rfl; rfl; rfl))
 with_reducible refine (CF.out _ HT.out).mono ?_
 rintro e w1 ⟨pf, rfl, kf, hb⟩
 replace B0 := qh9 (B0.out.keep hb)
 replace K0 := qh9 (K0.out.below hb)
 replace R0 := qh9 (R0.out.keep hb)
 replace HW := qc9 HW hb
 replace HT := qh9 (HT.out.below hb)
 clear hb
 replace kf := qh9 kf
 obtain rfl : pf = .slice none 0 0 := kf.out.flat rfl
 clear CF
 have T := qh9 (Bx1.new w1 #[.int .i64 0, .string ⟨#[]⟩, .string ⟨#[]⟩, .string ⟨#[]⟩, .string ⟨#[]⟩, .string ⟨#[]⟩, .slice none 0 0])
 go_upto_region 2 with ((with_reducible refine storeB (w1 := w1) (g := w1.heap.size) (b := .num x.fix) (p := (.slice none 0 0)) (.tmp 5) (.tmp 11) ?_ ?_ ?_ ?_ kf.out T.out.b0 ?_); rfl; rfl; rfl; rfl)
 have Q := Pt1.new (w := w1) (o := .num x.fix) (p := (.slice none 0 0)) (z := #[.int .i64 0, .string ⟨#[]⟩, .string ⟨#[]⟩, .string ⟨#[]⟩, .string ⟨#[]⟩, .string ⟨#[]⟩, .slice none 0 0])
 generalize World.setRow (w1.alloc (.cells #[.int .i64 0, .string ⟨#[]⟩, .string ⟨#[]⟩, .string ⟨#[]⟩, .string ⟨#[]⟩, .string ⟨#[]⟩, .slice none 0 0] 27)) w1.heap.size (cellsO (.num x.fix) (.slice none 0 0)).toArray = X1 at Q ⊢
 have hb := Q.bel
 replace B0 := qh9 (B0.out.keep hb)
 replace K0 := qh9 (K0.out.below hb)
 replace R0 := qh9 (R0.out.keep hb)
 replace HW := qc9 HW hb
 replace HT := qh9 (HT.out.below hb)
 replace kf := qh9 (kf.out.below hb)
 have F1 := qh9 Q.b0
 clear Q hb T
 go_upto_region 13 with fail
 obtain ⟨m0, m1, m2, m3, m4, m5, m6⟩ := Bx.c (BxK B0.out)
 clear m1 m2 m3 m4 m5 m6
 generalize x.kd = k at m0 CA
 go_wp2_with (first | ((with_reducible refine loadB (.tmp 3) ?_ ?_ ?_ B0.out ?_); rfl; rfl; rfl) | ((with_reducible refine loadB (.tmp 5) ?_ ?_ ?_ F1.out ?_); rfl; rfl; rfl) | ((with_reducible refine loadG (.tmp 3) ?_ ?_ ?_ B0.out ?_); rfl; rfl; rfl) | ((with_reducible refine loadG (.tmp 5) ?_ ?_ ?_ F1.out ?_); rfl; rfl; rfl))
 with_reducible refine (CA.out _).mono ?_
 rintro e w2 ⟨pr, rfl, kr, hb⟩
 replace B0 := qh9 (B0.out.keep hb)
 replace K0 := qh9 (K0.out.below hb)
 replace R0 := qh9 (R0.out.keep hb)
 replace HW := qc9 HW hb
 replace HT := qh9 (HT.out.below hb)
 replace kf := qh9 (kf.out.below hb)
 replace F1 := qh9 (F1.out.keep hb)
 clear hb
 replace kr := qh9 kr
 go_wp2_with (first | ((with_reducible refine storeB (w1 := w2) (g := w.heap.size + 1) (b := res) (p := pr) (.tmp 4) (.tmp 41) ?_ ?_ ?_ ?_ kr.out R0.out ?_); rfl; rfl; rfl; rfl) | ((with_reducible refine loadB (.tmp 3) ?_ ?_ ?_ B0.out ?_); rfl; rfl; rfl) | ((with_reducible refine loadB (.tmp 5) ?_ ?_ ?_ F1.out ?_); rfl; rfl; rfl) | ((with_reducible refine loadG (.tmp 3) ?_ ?_ ?_ B0.out ?_); rfl; rfl; rfl) | ((with_reducible refine loadG (.tmp 5) ?_ ?_ ?_ F1.out ?_); rfl; rfl; rfl))
 exact retHs rfl rfl R0.out rfl kr.out (by omega) HW.out
set_option maxHeartbeats 4000000 in
set_option maxRecDepth 100000 in
theorem oneStringp (x : Ob) (p : Value) (w : World) (hx : Hd w x p) (ht : Tab w) : Calls Tryz.prog 41 #[.string ⟨#[115, 116, 114, 105, 110, 103, 112]⟩, vO x p] w (RetH w (trO x.isStrB)) := by
 rw [← kd_str]
 have CA : Hid (∀ W, Calls Tryz.prog 64 #[.bool (x.kd == 3)] W (RetH W (trO (x.kd == 3)))) := fun W => truthR _ W
 generalize trO (x.kd == 3) = res at CA ⊢
 have CF : Hid (∀ W, Tab W → Calls Tryz.prog 62 #[vO x p] W (RetH W (.num x.fix))) := fun W h => (fixR x p W (fun q e => by subst e; exact hx.flat rfl) h).mono fun _ _ h => h.h
 obtain ⟨a0, a1, a2, a3, a4, a5, ea⟩ := cells7 (x) p
 have T := Bx2.new w #[a0, a1, a2, a3, a4, a5, p] #[.int .i64 0, .string ⟨#[]⟩, .string ⟨#[]⟩, .string ⟨#[]⟩, .string ⟨#[]⟩, .string ⟨#[]⟩, .slice none 0 0]
 rw [vO_cells ea]
 go_enter Tryz.func41, Tryz.ntmps41
 go_upto_region 1 with fail
 generalize (w.alloc (.cells #[a0, a1, a2, a3, a4, a5, p] 27)).alloc (.cells #[.int .i64 0, .string ⟨#[]⟩, .string ⟨#[]⟩, .string ⟨#[]⟩, .string ⟨#[]⟩, .string ⟨#[]⟩, .slice none 0 0] 27) = W at T ⊢
 have B0 : Hid (Bx W (w.heap.size) (cellsO (x) p).toArray) := by rw [ea]; exact T.b0
 have K0 := qh9 (hx.below T.bel)
 have R0 := qh9 T.b1
 have HW := qh9 T.bel
 have HT := qh9 (ht.below T.bel)
 try rw [← vO_cells ea]
 clear T ea hx ht
 go_wp2_with (first | ((with_reducible refine loadB (.tmp 3) ?_ ?_ ?_ B0.out ?_); rfl; rfl; rfl) | ((with_reducible refine loadG (.tmp 3) ?_ ?_ ?_ B0.out ?_); rfl; rfl; rfl))
 with_reducible refine (CF.out _ HT.out).mono ?_
 rintro e w1 ⟨pf, rfl, kf, hb⟩
 replace B0 := qh9 (B0.out.keep hb)
 replace K0 := qh9 (K0.out.below hb)
 replace R0 := qh9 (R0.out.keep hb)
 replace HW := qc9 HW hb
 replace HT := qh9 (HT.out.below hb)
 clear hb
 replace kf := qh9 kf
 obtain rfl : pf = .slice none 0 0 := kf.out.flat rfl
 clear CF
 have T := qh9 (Bx1.new w1 #[.int .i64 0, .string ⟨#[]⟩, .string ⟨#[]⟩, .string ⟨#[]⟩, .string ⟨#[]⟩, .string ⟨#[]⟩, .slice none 0 0])
 go_upto_region 2 with ((with_reducible refine storeB (w1 := w1) (g := w1.heap.size) (b := .num x.fix) (p := (.slice none 0 0)) (.tmp 5) (.tmp 11) ?_ ?_ ?_ ?_ kf.out T.out.b0 ?_); rfl; rfl; rfl; rfl)
 have Q := Pt1.new (w := w1) (o := .num x.fix) (p := (.slice none 0 0)) (z := #[.int .i64 0, .string ⟨#[]⟩, .string ⟨#[]⟩, .string ⟨#[]⟩, .string ⟨#[]⟩, .string ⟨#[]⟩, .slice none 0 0])
 generalize World.setRow (w1.alloc (.cells #[.int .i64 0, .string ⟨#[]⟩, .string ⟨#[]⟩, .string ⟨#[]⟩, .string ⟨#[]⟩, .string ⟨#[]⟩, .slice none 0 0] 27)) w1.heap.size (cellsO (.num x.fix) (.slice none 0 0)).toArray = X1 at Q ⊢
 have hb := Q.bel
 replace B0 := qh9 (B0.out.keep hb)
 replace K0 := qh9 (K0.out.below hb)
 replace R0 := qh9 (R0.out.keep hb)
 replace HW := qc9 HW hb
 replace HT := qh9 (HT.out.below hb)
 replace kf := qh9 (kf.out.below hb)
 have F1 := qh9 Q.b0
 clear Q hb T
 go_upto_region 15 with fail
 obtain ⟨m0, m1, m2, m3, m4, m5, m6⟩ := Bx.c (BxK B0.out)
 clear m1 m2 m3 m4 m5 m6
 generalize x.kd = k at m0 CA
 go_wp2_with (first | ((with_reducible refine loadB (.tmp 3) ?_ ?_ ?_ B0.out ?_); rfl; rfl; rfl) | ((with_reducible refine loadB (.tmp 5) ?_ ?_ ?_ F1.out ?_); rfl; rfl; rfl) | ((with_reducible refine loadG (.tmp 3) ?_ ?_ ?_ B0.out ?_); rfl; rfl; rfl) | ((with_reducible refine loadG (.tmp 5) ?_ ?_ ?_ F1.out ?_); rfl; rfl; rfl))
 with_reducible refine (CA.out _).mono ?_
 rintro e w2 ⟨pr, rfl, kr, hb⟩
 replace B0 := qh9 (B0.out.keep hb)
 replace K0 := qh9 (K0.out.below hb)
 replace R0 := qh9 (R0.out.keep hb)
 replace HW := qc9 HW hb
 replace HT := qh9 (HT.out.below hb)
 replace kf := qh9 (kf.out.below hb)
 replace F1 := qh9 (F1.out.keep hb)
 clear hb
 replace kr := qh9 kr
 go_wp2_with (first | ((with_reducible refine storeB (w1 := w2) (g := w.heap.size + 1) (b := res) (p := pr) (.tmp 4) (.tmp 47) ?_ ?_ ?_ ?_ kr.out R0.out ?_); rfl; rfl; rfl; rfl) | ((with_reducible refine loadB (.tmp 3) ?_ ?_ ?_ B0.out ?_); rfl; rfl; rfl) | ((with_reducible refine loadB (.tmp 5) ?_ ?_ ?_ F1.out ?_); rfl; rfl; rfl) | ((with_reducible refine loadG (.tmp 3) ?_ ?_ ?_ B0.out ?_); rfl; rfl; rfl) | ((with_reducible refine loadG (.tmp 5) ?_ ?_ ?_ F1.out ?_); rfl; rfl; rfl))
 exact retHs rfl rfl R0.out rfl kr.out (by omega) HW.out
set_option maxHeartbeats 4000000 in
set_option maxRecDepth 100000 in
theorem oneRationalp (x : Ob) (p : Value) (w : World) (hx : Hd w x p) (ht : Tab w) : Calls Tryz.prog 41 #[.string ⟨#[114, 97, 116, 105, 111, 110, 97, 108, 112]⟩, vO x p] w (RetH w (trO x.isNumB)) := by
 rw [← kd_num]
 have CA : Hid (∀ W, Calls Tryz.prog 64 #[.bool (x.kd == 1)] W (RetH W (trO (x.kd == 1)))) := fun W => truthR _ W
 generalize trO (x.kd == 1) = res at CA ⊢
 have CF : Hid (∀ W, Tab W → Calls Tryz.prog 62 #[vO x p] W (RetH W (.num x.fix))) := fun W h => (fixR x p W (fun q e => by subst e; exact hx.flat rfl) h).mono fun _ _ h => h.h
 obtain ⟨a0, a1, a2, a3, a4, a5, ea⟩ := cells7 (x) p
 have T := Bx2.new w #[a0, a1, a2, a3, a4, a5, p] #[.int .i64 0, .string ⟨#[]⟩, .string ⟨#[]⟩, .string ⟨#[]⟩, .string ⟨#[]⟩, .string ⟨#[]⟩, .slice none 0 0]
 rw [vO_cells ea]
 go_enter Tryz.func41, Tryz.ntmps41
 go_upto_region 1 with fail
 generalize (w.alloc (.cells #[a0, a1, a2, a3, a4, a5, p] 27)).alloc (.cells #[.int .i64 0, .string ⟨#[]⟩, .string ⟨#[]⟩, .string ⟨#[]⟩, .string ⟨#[]⟩, .string ⟨#[]⟩, .slice none 0 0] 27) = W at T ⊢
 have B0 : Hid (Bx W (w.heap.size) (cellsO (x) p).toArray) := by rw [ea]; exact T.b0
 have K0 := qh9 (hx.below T.bel)
 have R0 := qh9 T.b1
 have HW := qh9 T.bel
 have HT := qh9 (ht.below T.bel)
 try rw [← vO_cells ea]
 clear T ea hx ht
 go_wp2_with (first | ((with_reducible refine loadB (.tmp 3) ?_ ?_ ?_ B0.out ?_); rfl; rfl; rfl) | ((with_reducible refine loadG (.tmp 3) ?_ ?_ ?_ B0.out ?_); rfl; rfl; rfl))
 with_reducible refine (CF.out _ HT.out).mono ?_
 rintro e w1 ⟨pf, rfl, kf, hb⟩
 replace B0 := qh9 (B0.out.keep hb)
 replace K0 := qh9 (K0.out.below hb)
 replace R0 := qh9 (R0.out.keep hb)
 replace HW := qc9 HW hb
 replace HT := qh9 (HT.out.below hb)
 clear hb
 replace kf := qh9 kf
 obtain rfl : pf = .slice none 0 0 := kf.out.flat rfl
 clear CF
 have T := qh9 (Bx1.new w1 #[.int .i64 0, .string ⟨#[]⟩, .string ⟨#[]⟩, .string ⟨#[]⟩, .string ⟨#[]⟩, .string ⟨#[]⟩, .slice none 0 0])
 go_upto_region 2 with ((with_reducible refine storeB (w1 := w1) (g := w1.heap.size) (b := .num x.fix) (p := (.slice none 0 0)) (.tmp 5) (.tmp 11) ?_ ?_ ?_ ?_ kf.out T.out.b0 ?_); rfl; rfl; rfl; rfl)
 have Q := Pt1.new (w := w1) (o := .num x.fix) (p := (.slice none 0 0)) (z := #[.int .i64 0, .string ⟨#[]⟩, .string ⟨#[]⟩, .string ⟨#[]⟩, .string ⟨#[]⟩, .string ⟨#[]⟩, .slice none 0 0])
 generalize World.setRow (w1.alloc (.cells #[.int .i64 0, .string ⟨#[]⟩, .string ⟨#[]⟩, .string ⟨#[]⟩, .string ⟨#[]⟩, .string ⟨#[]⟩, .slice none 0 0] 27)) w1.heap.size (cellsO (.num x.fix) (.slice none 0 0)).toArray = X1 at Q ⊢
 have hb := Q.bel
 replace B0 := qh9 (B0.out.keep hb)
 replace K0 := qh9 (K0.out.below hb)
 replace R0 := qh9 (R0.out.keep hb)
 replace HW := qc9 HW hb
 replace HT := qh9 (HT.out.below hb)
 replace kf := qh9 (kf.out.below hb)
 have F1 := qh9 Q.b0
 clear Q hb T
 go_upto_region 17 with fail
 obtain ⟨m0, m1, m2, m3, m4, m5, m6⟩ := Bx.c (BxK B0.out)
 clear m1 m2 m3 m4 m5 m6
 generalize x.kd = k at m0 CA
 go_wp2_with (first | ((with_reducible refine loadB (.tmp 3) ?_ ?_ ?_ B0.out ?_); rfl; rfl; rfl) | ((with_reducible refine loadB (.tmp 5) ?_ ?_ ?_ F1.out ?_); rfl; rfl; rfl) | ((with_reducible refine loadG (.tmp 3) ?_ ?_ ?_ B0.out ?_); rfl; rfl; rfl) | ((with_reducible refine loadG (.tmp 5) ?_ ?_ ?_ F1.out ?_); rfl; rfl; rfl))
 with_reducible refine (CA.out _).mono ?_
 rintro e w2 ⟨pr, rfl, kr, hb⟩
 replace B0 := qh9 (B0.out.keep hb)
 replace K0 := qh9 (K0.out.below hb)
 replace R0 := qh9 (R0.out.keep hb)
 replace HW := qc9 HW hb
 replace HT := qh9 (HT.out.below hb)
 replace kf := qh9 (kf.out.below hb)
 replace F1 := qh9 (F1.out.keep hb)
 clear hb
 replace kr := qh9 kr
 go_wp2_with (first | ((with_reducible refine storeB (w1 := w2) (g := w.heap.size + 1) (b := res) (p := pr) (.tmp 4) (.tmp 53) ?_ ?_ ?_ ?_ kr.out R0.out ?_); rfl; rfl; rfl; rfl) | ((with_reducible refine loadB (.tmp 3) ?_ ?_ ?_ B0.out ?_); rfl; rfl; rfl) | ((with_reducible refine loadB (.tmp 5) ?_ ?_ ?_ F1.out ?_); rfl; rfl; rfl) | ((with_reducible refine loadG (.tmp 3) ?_ ?_ ?_ B0.out ?_); rfl; rfl; rfl) | ((with_reducible refine loadG (.tmp 5) ?_ ?_ ?_ F1.out ?_); rfl; rfl; rfl))
 exact retHs rfl rfl R0.out rfl kr.out (by omega) HW.out
set_option maxHeartbeats 4000000 in
set_option maxRecDepth 100000 in
theorem oneIntegerp (x : Ob) (p : Value) (w : World) (hx : Hd w x p) (ht : Tab w) : Calls Tryz.prog 41 #[.string ⟨#[105, 110, 116, 101, 103, 101, 114, 112]⟩, vO x p] w (RetH w (trO x.isInt)) := by
 have CI : Hid (∀ W q, Calls Tryz.prog 30 #[vO x q] W (RetB W x.isInt)) := fun W q => isIntegerR x q W
 generalize x.isInt = v at CI ⊢
 have CF : Hid (∀ W, Tab W → Calls Tryz.prog 62 #[vO x p] W (RetH W (.num x.fix))) := fun W h => (fixR x p W (fun q e => by subst e; exact hx.flat rfl) h).mono fun _ _ h => h.h
 obtain ⟨a0, a1, a2, a3, a4, a5, ea⟩ := cells7 (x) p
 have T := Bx2.new w #[a0, a1, a2, a3, a4, a5, p] #[.int .i64 0, .string ⟨#[]⟩, .string ⟨#[]⟩, .string ⟨#[]⟩, .string ⟨#[]⟩, .string ⟨#[]⟩, .slice none 0 0]
 rw [vO_cells ea]
 go_enter Tryz.func41, Tryz.ntmps41
 go_upto_region 1 with fail
 generalize (w.alloc (.cells #[a0, a1, a2, a3, a4, a5, p] 27)).alloc (.cells #[.int .i64 0, .string ⟨#[]⟩, .string ⟨#[]⟩, .string ⟨#[]⟩, .string ⟨#[]⟩, .string ⟨#[]⟩, .slice none 0 0] 27) = W at T ⊢
 have B0 : Hid (Bx W (w.heap.size) (cellsO (x) p).toArray) := by rw [ea]; exact T.b0
 have K0 := qh9 (hx.below T.bel)
 have R0 := qh9 T.b1
 have HW := qh9 T.bel
 have HT := qh9 (ht.below T.bel)
 try rw [← vO_cells ea]
 clear T ea hx ht
 go_wp2_with (first | ((with_reducible refine loadB (.tmp 3) ?_ ?_ ?_ B0.out ?_); rfl; rfl; rfl) | ((with_reducible refine loadG (.tmp 3) ?_ ?_ ?_ B0.out ?_); rfl; rfl; rfl))
 with_reducible refine (CF.out _ HT.out).mono ?_
 rintro e w1 ⟨pf, rfl, kf, hb⟩
 replace B0 := qh9 (B0.out.keep hb)
 replace K0 := qh9 (K0.out.below hb)
 replace R0 := qh9 (R0.out.keep hb)
 replace HW := qc9 HW hb
 replace HT := qh9 (HT.out.below hb)
 clear hb
 replace kf := qh9 kf
 obtain rfl : pf = .slice none 0 0 := kf.out.flat rfl
 clear CF
 have T := qh9 (Bx1.new w1 #[.int .i64 0, .string ⟨#[]⟩, .string ⟨#[]⟩, .string ⟨#[]⟩, .string ⟨#[]⟩, .string ⟨#[]⟩, .slice none 0 0])
 go_upto_region 2 with ((with_reducible refine storeB (w1 := w1) (g := w1.heap.size) (b := .num x.fix) (p := (.slice none 0 0)) (.tmp 5) (.tmp 11) ?_ ?_ ?_ ?_ kf.out T.out.b0 ?_); rfl; rfl; rfl; rfl)
 have Q := Pt1.new (w := w1) (o := .num x.fix) (p := (.slice none 0 0)) (z := #[.int .i64 0, .string ⟨#[]⟩, .string ⟨#[]⟩, .string ⟨#[]⟩, .string ⟨#[]⟩, .string ⟨#[]⟩, .slice none 0 0])
 generalize World.setRow (w1.alloc (.cells #[.int .i64 0, .string ⟨#[]⟩, .string ⟨#[]⟩, .string ⟨#[]⟩, .string ⟨#[]⟩, .string ⟨#[]⟩, .slice none 0 0] 27)) w1.heap.size (cellsO (.num x.fix) (.slice none 0 0)).toArray = X1 at Q ⊢
 have hb := Q.bel
 replace B0 := qh9 (B0.out.keep hb)
 replace K0 := qh9 (K0.out.below hb)
 replace R0 := qh9 (R0.out.keep hb)
 replace HW := qc9 HW hb
 replace HT := qh9 (HT.out.below hb)
 replace kf := qh9 (kf.out.below hb)
 have F1 := qh9 Q.b0
 clear Q hb T
 go_upto_region 19 with fail
 go_wp2_with (first | ((with_reducible refine loadB (.tmp 3) ?_ ?_ ?_ B0.out ?_); rfl; rfl; rfl) | ((with_reducible refine loadB (.tmp 5) ?_ ?_ ?_ F1.out ?_); rfl; rfl; rfl) | ((with_reducible refine loadG (.tmp 3) ?_ ?_ ?_ B0.out ?_); rfl; rfl; rfl) | ((with_reducible refine loadG (.tmp 5) ?_ ?_ ?_ F1.out ?_); rfl; rfl; rfl))
 with_reducible refine (CI.out _ _).mono ?_
 rintro e w2 ⟨rfl, hb⟩
 replace B0 := qh9 (B0.out.keep hb)
 replace K0 := qh9 (K0.out.below hb)
 replace R0 := qh9 (R0.out.keep hb)
 replace HW := qc9 HW hb
 replace HT := qh9 (HT.out.below hb)
 replace kf := qh9 (kf.out.below hb)
 replace F1 := qh9 (F1.out.keep hb)
 clear hb
 go_wp2_with (first | ((with_reducible refine loadB (.tmp 3) ?_ ?_ ?_ B0.out ?_); rfl; rfl; rfl) | ((with_reducible refine loadB (.tmp 5) ?_ ?_ ?_ F1.out ?_); rfl; rfl; rfl) | ((with_reducible refine loadG (.tmp 3) ?_ ?_ ?_ B0.out ?_); rfl; rfl; rfl) | ((with_reducible refine loadG (.tmp 5) ?_ ?_ ?_ F1.out ?_); rfl; rfl; rfl))
 with_reducible refine (truthR v _).mono ?_
 rintro e w3 ⟨pr, rfl, kr, hb⟩
 replace B0 := qh9 (B0.out.keep hb)
 replace K0 := qh9 (K0.out.below hb)
 replace R0 := qh9 (R0.out.keep hb)
 replace HW := qc9 HW hb
 replace HT := qh9 (HT.out.below hb)
 replace kf := qh9 (kf.out.below hb)
 replace F1 := qh9 (F1.out.keep hb)
 clear hb
 replace kr := qh9 kr
 go_wp2_with (first | ((with_reducible refine storeB (w1 := w3) (g := w.heap.size + 1) (b := trO v) (p := pr) (.tmp 4) (.tmp 58) ?_ ?_ ?_ ?_ kr.out R0.out ?_); rfl; rfl; rfl; rfl) | ((with_reducible refine loadB (.tmp 3) ?_ ?_ ?_ B0.out ?_); rfl; rfl; rfl) | ((with_reducible refine loadB (.tmp 5) ?_ ?_ ?_ F1.out ?_); rfl; rfl; rfl) | ((with_reducible refine loadG (.tmp 3) ?_ ?_ ?_ B0.out ?_); rfl; rfl; rfl) | ((with_reducible refine loadG (.tmp 5) ?_ ?_ ?_ F1.out ?_); rfl; rfl; rfl))
 exact retHs rfl rfl R0.out rfl kr.out (by omega) HW.out
set_option maxHeartbeats 4000000 in
set_option maxRecDepth 100000 in
theorem oneNeg (x : Ob) (p : Value) (w : World) (hx : Hd w x p) (ht : Tab w) (d : Nat) (hd : d ≤ 1000) (hb : Bd d x.fix) : Calls Tryz.prog 41 #[.string ⟨#[117, 110, 97, 114, 121, 45, 45]⟩, vO x p] w (RetH w (.num (-x.fix))) := by
 have CO : Hid (∀ W q, Hd W x q → Tab W → Calls Tryz.prog 65 #[vO x q] W (RetH W (.num (-x.fix)))) := fun W q hq hT => (oppositeR d hd x q W (Has W) hq hb hT).mono fun _ _ h => h.h
 generalize (.num (-x.fix) : Ob) = res at CO ⊢
 clear hb
 have CF : Hid (∀ W, Tab W → Calls Tryz.prog 62 #[vO x p] W (RetH W (.num x.fix))) := fun W h => (fixR x p W (fun q e => by subst e; exact hx.flat rfl) h).mono fun _ _ h => h.h
 obtain ⟨a0, a1, a2, a3, a4, a5, ea⟩ := cells7 (x) p
 have T := Bx2.new w #[a0, a1, a2, a3, a4, a5, p] #[.int .i64 0, .string ⟨#[]⟩, .string ⟨#[]⟩, .string ⟨#[]⟩, .string ⟨#[]⟩, .string ⟨#[]⟩, .slice none 0 0]
 rw [vO_cells ea]
 go_enter Tryz.func41, Tryz.ntmps41
 go_upto_region 1 with fail
 generalize (w.alloc (.cells #[a0, a1, a2, a3, a4, a5, p] 27)).alloc (.cells #[.int .i64 0, .string ⟨#[]⟩, .string ⟨#[]⟩, .string ⟨#[]⟩, .string ⟨#[]⟩, .string ⟨#[]⟩, .slice none 0 0] 27) = W at T ⊢
 have B0 : Hid (Bx W (w.heap.size) (cellsO (x) p).toArray) := by rw [ea]; exact T.b0
 have K0 := qh9 (hx.below T.bel)
 have R0 := qh9 T.b1
 have HW := qh9 T.bel
 have HT := qh9 (ht.below T.bel)
 try rw [← vO_cells ea]
 clear T ea hx ht
 go_wp2_with (first | ((with_reducible refine loadB (.tmp 3) ?_ ?_ ?_ B0.out ?_); rfl; rfl; rfl) | ((with_reducible refine loadG (.tmp 3) ?_ ?_ ?_ B0.out ?_); rfl; rfl; rfl))
 with_reducible refine (CF.out _ HT.out).mono ?_
 rintro e w1 ⟨pf, rfl, kf, hb⟩
 replace B0 := qh9 (B0.out.keep hb)
 replace K0 := qh9 (K0.out.below hb)
 replace R0 := qh9 (R0.out.keep hb)
 replace HW := qc9 HW hb
 replace HT := qh9 (HT.out.below hb)
 clear hb
 replace kf := qh9 kf
 obtain rfl : pf = .slice none 0 0 := kf.out.flat rfl
 clear CF
 have T := qh9 (Bx1.new w1 #[.int .i64 0, .string ⟨#[]⟩, .string ⟨#[]⟩, .string ⟨#[]⟩, .string ⟨#[]⟩, .string ⟨#[]⟩, .slice none 0 0])
 go_upto_region 2 with ((with_reducible refine storeB (w1 := w1) (g := w1.heap.size) (b := .num x.fix) (p := (.slice none 0 0)) (.tmp 5) (.tmp 11) ?_ ?_ ?_ ?_ kf.out T.out.b0 ?_); rfl; rfl; rfl; rfl)
 have Q := Pt1.new (w := w1) (o := .num x.fix) (p := (.slice none 0 0)) (z := #[.int .i64 0, .string ⟨#[]⟩, .string ⟨#[]⟩, .string ⟨#[]⟩, .string ⟨#[]⟩, .string ⟨#[]⟩, .slice none 0 0])
 generalize World.setRow (w1.alloc (.cells #[.int .i64 0, .string ⟨#[]⟩, .string ⟨#[]⟩, .string ⟨#[]⟩, .string ⟨#[]⟩, .string ⟨#[]⟩, .slice none 0 0] 27)) w1.heap.size (cellsO (.num x.fix) (.slice none 0 0)).toArray = X1 at Q ⊢
 have hb := Q.bel
 replace B0 := qh9 (B0.out.keep hb)
 replace K0 := qh9 (K0.out.below hb)
 replace R0 := qh9 (R0.out.keep hb)
 replace HW := qc9 HW hb
 replace HT := qh9 (HT.out.below hb)
 replace kf := qh9 (kf.out.below hb)
 have F1 := qh9 Q.b0
 clear Q hb T
 go_upto_region 21 with fail
 go_wp2_with (first | ((with_reducible refine loadB (.tmp 3) ?_ ?_ ?_ B0.out ?_); rfl; rfl; rfl) | ((with_reducible refine loadB (.tmp 5) ?_ ?_ ?_ F1.out ?_); rfl; rfl; rfl) | ((with_reducible refine loadG (.tmp 3) ?_ ?_ ?_ B0.out ?_); rfl; rfl; rfl) | ((with_reducible refine loadG (.tmp 5) ?_ ?_ ?_ F1.out ?_); rfl; rfl; rfl))
 with_reducible refine (CO.out _ _ K0.out HT.out).mono ?_
 rintro e w2 ⟨pr, rfl, kr, hb⟩
 replace B0 := qh9 (B0.out.keep hb)
 replace K0 := qh9 (K0.out.below hb)
 replace R0 := qh9 (R0.out.keep hb)
 replace HW := qc9 HW hb
 replace HT := qh9 (HT.out.below hb)
 replace kf := qh9 (kf.out.below hb)
 replace F1 := qh9 (F1.out.keep hb)
 clear hb
 replace kr := qh9 kr
 go_wp2_with (first | ((with_reducible refine storeB (w1 := w2) (g := w.heap.size + 1) (b := res) (p := pr) (.tmp 4) (.tmp 62) ?_ ?_ ?_ ?_ kr.out R0.out ?_); rfl; rfl; rfl; rfl) | ((with_reducible refine loadB (.tmp 3) ?_ ?_ ?_ B0.out ?_); rfl; rfl; rfl) | ((with_reducible refine loadB (.tmp 5) ?_ ?_ ?_ F1.out ?_); rfl; rfl; rfl) | ((with_reducible refine loadG (.tmp 3) ?_ ?_ ?_ B0.out ?_); rfl; rfl; rfl) | ((with_reducible refine loadG (.tmp 5) ?_ ?_ ?_ F1.out ?_); rfl; rfl; rfl))
 exact retHs rfl rfl R0.out rfl kr.out (by omega) HW.out
set_option maxHeartbeats 4000000 in
set_option maxRecDepth 100000 in
theorem oneInv (x : Ob) (p : Value) (w : World) (hx : Hd w x p) (ht : Tab w) (d : Nat) (hd : d ≤ 1000) (hb : Bd d x.fix) : Calls Tryz.prog 41 #[.string ⟨#[117, 110, 97, 114, 121, 45, 47]⟩, vO x p] w (RetH w (.num (x.fix⁻¹))) := by
 have CO : Hid (∀ W q, Hd W x q → Tab W → Calls Tryz.prog 66 #[vO x q] W (RetH W (.num (x.fix⁻¹)))) := fun W q hq hT => (reciprocalR d hd x q W (Has W) hq hb hT).mono fun _ _ h => h.h
 generalize (.num (x.fix⁻¹) : Ob) = res at CO ⊢
 clear hb
 have CF : Hid (∀ W, Tab W → Calls Tryz.prog 62 #[vO x p] W (RetH W (.num x.fix))) := fun W h => (fixR x p W (fun q e => by subst e; exact hx.flat rfl) h).mono fun _ _ h => h.h
 obtain ⟨a0, a1, a2, a3, a4, a5, ea⟩ := cells7 (x) p
 have T := Bx2.new w #[a0, a1, a2, a3, a4, a5, p] #[.int .i64 0, .string ⟨#[]⟩, .string ⟨#[]⟩, .string ⟨#[]⟩, .string ⟨#[]⟩, .string ⟨#[]⟩, .slice none 0 0]
 rw [vO_cells ea]
 go_enter Tryz.func41, Tryz.ntmps41
 go_upto_region 1 with fail
 generalize (w.alloc (.cells #[a0, a1, a2, a3, a4, a5, p] 27)).alloc (.cells #[.int .i64 0, .string ⟨#[]⟩, .string ⟨#[]⟩, .string ⟨#[]⟩, .string ⟨#[]⟩, .string ⟨#[]⟩, .slice none 0 0] 27) = W at T ⊢
 have B0 : Hid (Bx W (w.heap.size) (cellsO (x) p).toArray) := by rw [ea]; exact T.b0
 have K0 := qh9 (hx.below T.bel)
 have R0 := qh9 T.b1
 have HW := qh9 T.bel
 have HT := qh9 (ht.below T.bel)
 try rw [← vO_cells ea]
 clear T ea hx ht
 go_wp2_with (first | ((with_reducible refine loadB (.tmp 3) ?_ ?_ ?_ B0.out ?_); rfl; rfl; rfl) | ((with_reducible refine loadG (.tmp 3) ?_ ?_ ?_ B0.out ?_); rfl; rfl; rfl))
 with_reducible refine (CF.out _ HT.out).mono ?_
 rintro e w1 ⟨pf, rfl, kf, hb⟩
 replace B0 := qh9 (B0.out.keep hb)
 replace K0 := qh9 (K0.out.below hb)
 replace R0 := qh9 (R0.out.keep hb)
 replace HW := qc9 HW hb
 replace HT := qh9 (HT.out.below hb)
 clear hb
 replace kf := qh9 kf
 obtain rfl : pf = .slice none 0 0 := kf.out.flat rfl
 clear CF
 have T := qh9 (Bx1.new w1 #[.int .i64 0, .string ⟨#[]⟩, .string ⟨#[]⟩, .string ⟨#[]⟩, .string ⟨#[]⟩, .string ⟨#[]⟩, .slice none 0 0])
 go_upto_region 2 with ((with_reducible refine storeB (w1 := w1) (g := w1.heap.size) (b := .num x.fix) (p := (.slice none 0 0)) (.tmp 5) (.tmp 11) ?_ ?_ ?_ ?_ kf.out T.out.b0 ?_); rfl; rfl; rfl; rfl)
 have Q := Pt1.new (w := w1) (o := .num x.fix) (p := (.slice none 0 0)) (z := #[.int .i64 0, .string ⟨#[]⟩, .string ⟨#[]⟩, .string ⟨#[]⟩, .string ⟨#[]⟩, .string ⟨#[]⟩, .slice none 0 0])
 generalize World.setRow (w1.alloc (.cells #[.int .i64 0, .string ⟨#[]⟩, .string ⟨#[]⟩, .string ⟨#[]⟩, .string ⟨#[]⟩, .string ⟨#[]⟩, .slice none 0 0] 27)) w1.heap.size (cellsO (.num x.fix) (.slice none 0 0)).toArray = X1 at Q ⊢
 have hb := Q.bel
 replace B0 := qh9 (B0.out.keep hb)
 replace K0 := qh9 (K0.out.below hb)
 replace R0 := qh9 (R0.out.keep hb)
 replace HW := qc9 HW hb
 replace HT := qh9 (HT.out.below hb)
 replace kf := qh9 (kf.out.below hb)
 have F1 := qh9 Q.b0
 clear Q hb T
 go_upto_region 23 with fail
 go_wp2_with (first | ((with_reducible refine loadB (.tmp 3) ?_ ?_ ?_ B0.out ?_); rfl; rfl; rfl) | ((with_reducible refine loadB (.tmp 5) ?_ ?_ ?_ F1.out ?_); rfl; rfl; rfl) | ((with_reducible refine loadG (.tmp 3) ?_ ?_ ?_ B0.out ?_); rfl; rfl; rfl) | ((with_reducible refine loadG (.tmp 5) ?_ ?_ ?_ F1.out ?_); rfl; rfl; rfl))
 with_reducible refine (CO.out _ _ K0.out HT.out).mono ?_
 rintro e w2 ⟨pr, rfl, kr, hb⟩
 replace B0 := qh9 (B0.out.keep hb)
 replace K0 := qh9 (K0.out.below hb)
 replace R0 := qh9 (R0.out.keep hb)
 replace HW := qc9 HW hb
 replace HT := qh9 (HT.out.below hb)
 replace kf := qh9 (kf.out.below hb)
 replace F1 := qh9 (F1.out.keep hb)
 clear hb
 replace kr := qh9 kr
 go_wp2_with (first | ((with_reducible refine storeB (w1 := w2) (g := w.heap.size + 1) (b := res) (p := pr) (.tmp 4) (.tmp 66) ?_ ?_ ?_ ?_ kr.out R0.out ?_); rfl; rfl; rfl; rfl) | ((with_reducible refine loadB (.tmp 3) ?_ ?_ ?_ B0.out ?_); rfl; rfl; rfl) | ((with_reducible refine loadB (.tmp 5) ?_ ?_ ?_ F1.out ?_); rfl; rfl; rfl) | ((with_reducible refine loadG (.tmp 3) ?_ ?_ ?_ B0.out ?_); rfl; rfl; rfl) | ((with_reducible refine loadG (.tmp 5) ?_ ?_ ?_ F1.out ?_); rfl; rfl; rfl))
 exact retHs rfl rfl R0.out rfl kr.out (by omega) HW.out
set_option maxHeartbeats 4000000 in
set_option maxRecDepth 100000 in
theorem oneNumerator (x : Ob) (p : Value) (w : World) (hx : Hd w x p) (ht : Tab w) (d : Nat) (hd : d ≤ 1000) (hb : Bd d x.fix) : Calls Tryz.prog 41 #[.string ⟨#[110, 117, 109, 101, 114, 97, 116, 111, 114]⟩, vO x p] w (RetH w (inO x.fix.num)) := by
 have CG : Hid (∀ W, Calls Tryz.prog 20 #[.string (nt x.fix), .string ⟨#[49]⟩] W (RetH W (inO x.fix.num))) := fun W => integerR x.fix.num W (by have := bd_nt hb; have e : BA (text x.fix.num) = nt x.fix := rfl; rw [e]; omega)
 clear hb
 generalize (inO x.fix.num : Ob) = res at CG ⊢
 have CF : Hid (∀ W, Tab W → Calls Tryz.prog 62 #[vO x p] W (RetH W (.num x.fix))) := fun W h => (fixR x p W (fun q e => by subst e; exact hx.flat rfl) h).mono fun _ _ h => h.h
 obtain ⟨a0, a1, a2, a3, a4, a5, ea⟩ := cells7 (x) p
 have T := Bx2.new w #[a0, a1, a2, a3, a4, a5, p] #[.int .i64 0, .string ⟨#[]⟩, .string ⟨#[]⟩, .string ⟨#[]⟩, .string ⟨#[]⟩, .string ⟨#[]⟩, .slice none 0 0]
 rw [vO_cells ea]
 go_enter Tryz.func41, Tryz.ntmps41
 go_upto_region 1 with fail
 generalize (w.alloc (.cells #[a0, a1, a2, a3, a4, a5, p] 27)).alloc (.cells #[.int .i64 0, .string ⟨#[]⟩, .string ⟨#[]⟩, .string ⟨#[]⟩, .string ⟨#[]⟩, .string ⟨#[]⟩, .slice none 0 0] 27) = W at T ⊢
 have B0 : Hid (Bx W (w.heap.size) (cellsO (x) p).toArray) := by rw [ea]; exact T.b0
 have K0 := qh9 (hx.below T.bel)
 have R0 := qh9 T.b1
 have HW := qh9 T.bel
 have HT := qh9 (ht.below T.bel)
 try rw [← vO_cells ea]
 clear T ea hx ht
 go_wp2_with (first | ((with_reducible refine loadB (.tmp 3) ?_ ?_ ?_ B0.out ?_); rfl; rfl; rfl) | ((with_reducible refine loadG (.tmp 3) ?_ ?_ ?_ B0.out ?_); rfl; rfl; rfl))
 with_reducible refine (CF.out _ HT.out).mono ?_
 rintro e w1 ⟨pf, rfl, kf, hb⟩
 replace B0 := qh9 (B0.out.keep hb)
 replace K0 := qh9 (K0.out.below hb)
 replace R0 := qh9 (R0.out.keep hb)
 replace HW := qc9 HW hb
 replace HT := qh9 (HT.out.below hb)
 clear hb
 replace kf := qh9 kf
 obtain rfl : pf = .slice none 0 0 := kf.out.flat rfl
 clear CF
 have T := qh9 (Bx1.new w1 #[.int .i64 0, .string ⟨#[]⟩, .string ⟨#[]⟩, .string ⟨#[]⟩, .string ⟨#[]⟩, .string ⟨#[]⟩, .slice none 0 0])
 go_upto_region 2 with ((with_reducible refine storeB (w1 := w1) (g := w1.heap.size) (b := .num x.fix) (p := (.slice none 0 0)) (.tmp 5) (.tmp 11) ?_ ?_ ?_ ?_ kf.out T.out.b0 ?_); rfl; rfl; rfl; rfl)
 have Q := Pt1.new (w := w1) (o := .num x.fix) (p := (.slice none 0 0)) (z := #[.int .i64 0, .string ⟨#[]⟩, .string ⟨#[]⟩, .string ⟨#[]⟩, .string ⟨#[]⟩, .string ⟨#[]⟩, .slice none 0 0])
 generalize World.setRow (w1.alloc (.cells #[.int .i64 0, .string ⟨#[]⟩, .string ⟨#[]⟩, .string ⟨#[]⟩, .string ⟨#[]⟩, .string ⟨#[]⟩, .slice none 0 0] 27)) w1.heap.size (cellsO (.num x.fix) (.slice none 0 0)).toArray = X1 at Q ⊢
 have hb := Q.bel
 replace B0 := qh9 (B0.out.keep hb)
 replace K0 := qh9 (K0.out.below hb)
 replace R0 := qh9 (R0.out.keep hb)
 replace HW := qc9 HW hb
 replace HT := qh9 (HT.out.below hb)
 replace kf := qh9 (kf.out.below hb)
 have F1 := qh9 Q.b0
 clear Q hb T
 go_upto_region 25 with fail
 obtain ⟨f0, f1, f2, f3, f4, f5, f6⟩ := Bx.c F1.out
 clear f0 f2 f3 f4 f5 f6
 generalize nt x.fix = s1 at f1 CG
 go_wp2_with (first | ((with_reducible refine loadB (.tmp 3) ?_ ?_ ?_ B0.out ?_); rfl; rfl; rfl) | ((with_reducible refine loadB (.tmp 5) ?_ ?_ ?_ F1.out ?_); rfl; rfl; rfl) | ((with_reducible refine loadG (.tmp 3) ?_ ?_ ?_ B0.out ?_); rfl; rfl; rfl) | ((with_reducible refine loadG (.tmp 5) ?_ ?_ ?_ F1.out ?_); rfl; rfl; rfl))
 with_reducible refine (CG.out _).mono ?_
 rintro e w2 ⟨pr, rfl, kr, hb⟩
 replace B0 := qh9 (B0.out.keep hb)
 replace K0 := qh9 (K0.out.below hb)
 replace R0 := qh9 (R0.out.keep hb)
 replace HW := qc9 HW hb
 replace HT := qh9 (HT.out.below hb)
 replace kf := qh9 (kf.out.below hb)
 replace F1 := qh9 (F1.out.keep hb)
 clear hb
 replace kr := qh9 kr
 go_wp2_with (first | ((with_reducible refine storeB (w1 := w2) (g := w.heap.size + 1) (b := res) (p := pr) (.tmp 4) (.tmp 71) ?_ ?_ ?_ ?_ kr.out R0.out ?_); rfl; rfl; rfl; rfl) | ((with_reducible refine loadB (.tmp 3) ?_ ?_ ?_ B0.out ?_); rfl; rfl; rfl) | ((with_reducible refine loadB (.tmp 5) ?_ ?_ ?_ F1.out ?_); rfl; rfl; rfl) | ((with_reducible refine loadG (.tmp 3) ?_ ?_ ?_ B0.out ?_); rfl; rfl; rfl) | ((with_reducible refine loadG (.tmp 5) ?_ ?_ ?_ F1.out ?_); rfl; rfl; rfl))
 exact retHs rfl rfl R0.out rfl kr.out (by omega) HW.out
set_option maxHeartbeats 4000000 in
set_option maxRecDepth 100000 in
theorem oneDenominator (x : Ob) (p : Value) (w : World) (hx : Hd w x p) (ht : Tab w) (d : Nat) (hd : d ≤ 1000) (hb : Bd d x.fix) : Calls Tryz.prog 41 #[.string ⟨#[100, 101, 110, 111, 109, 105, 110, 97, 116, 111, 114]⟩, vO x p] w (RetH w (inO x.fix.den)) := by
 have CG : Hid (∀ W, Calls Tryz.prog 20 #[.string (dt x.fix), .string ⟨#[49]⟩] W (RetH W (inO x.fix.den))) := fun W => integerR (x.fix.den : Int) W (by have := bd_dt hb; have e : BA (text (x.fix.den : Int)) = dt x.fix := rfl; rw [e]; omega)
 clear hb
 generalize (inO x.fix.den : Ob) = res at CG ⊢
 have CF : Hid (∀ W, Tab W → Calls Tryz.prog 62 #[vO x p] W (RetH W (.num x.fix))) := fun W h => (fixR x p W (fun q e => by subst e; exact hx.flat rfl) h).mono fun _ _ h => h.h
 obtain ⟨a0, a1, a2, a3, a4, a5, ea⟩ := cells7 (x) p
 have T := Bx2.new w #[a0, a1, a2, a3, a4, a5, p] #[.int .i64 0, .string ⟨#[]⟩, .string ⟨#[]⟩, .string ⟨#[]⟩, .string ⟨#[]⟩, .string ⟨#[]⟩, .slice none 0 0]
 rw [vO_cells ea]
 go_enter Tryz.func41, Tryz.ntmps41
 go_upto_region 1 with fail
 generalize (w.alloc (.cells #[a0, a1, a2, a3, a4, a5, p] 27)).alloc (.cells #[.int .i64 0, .string ⟨#[]⟩, .string ⟨#[]⟩, .string ⟨#[]⟩, .string ⟨#[]⟩, .string ⟨#[]⟩, .slice none 0 0] 27) = W at T ⊢
 have B0 : Hid (Bx W (w.heap.size) (cellsO (x) p).toArray) := by rw [ea]; exact T.b0
 have K0 := qh9 (hx.below T.bel)
 have R0 := qh9 T.b1
 have HW := qh9 T.bel
 have HT := qh9 (ht.below T.bel)
 try rw [← vO_cells ea]
 clear T ea hx ht
 go_wp2_with (first | ((with_reducible refine loadB (.tmp 3) ?_ ?_ ?_ B0.out ?_); rfl; rfl; rfl) | ((with_reducible refine loadG (.tmp 3) ?_ ?_ ?_ B0.out ?_); rfl; rfl; rfl))
 with_reducible refine (CF.out _ HT.out).mono ?_
 rintro e w1 ⟨pf, rfl, kf, hb⟩
 replace B0 := qh9 (B0.out.keep hb)
 replace K0 := qh9 (K0.out.below hb)
 replace R0 := qh9 (R0.out.keep hb)
 replace HW := qc9 HW hb
 replace HT := qh9 (HT.out.below hb)
 clear hb
 replace kf := qh9 kf
 obtain rfl : pf = .slice none 0 0 := kf.out.flat rfl
 clear CF
 have T := qh9 (Bx1.new w1 #[.int .i64 0, .string ⟨#[]⟩, .string ⟨#[]⟩, .string ⟨#[]⟩, .string ⟨#[]⟩, .string ⟨#[]⟩, .slice none 0 0])
 go_upto_region 2 with ((with_reducible refine storeB (w1 := w1) (g := w1.heap.size) (b := .num x.fix) (p := (.slice none 0 0)) (.tmp 5) (.tmp 11) ?_ ?_ ?_ ?_ kf.out T.out.b0 ?_); rfl; rfl; rfl; rfl)
 have Q := Pt1.new (w := w1) (o := .num x.fix) (p := (.slice none 0 0)) (z := #[.int .i64 0, .string ⟨#[]⟩, .string ⟨#[]⟩, .string ⟨#[]⟩, .string ⟨#[]⟩, .string ⟨#[]⟩, .slice none 0 0])
 generalize World.setRow (w1.alloc (.cells #[.int .i64 0, .string ⟨#[]⟩, .string ⟨#[]⟩, .string ⟨#[]⟩, .string ⟨#[]⟩, .string ⟨#[]⟩, .slice none 0 0] 27)) w1.heap.size (cellsO (.num x.fix) (.slice none 0 0)).toArray = X1 at Q ⊢
 have hb := Q.bel
 replace B0 := qh9 (B0.out.keep hb)
 replace K0 := qh9 (K0.out.below hb)
 replace R0 := qh9 (R0.out.keep hb)
 replace HW := qc9 HW hb
 replace HT := qh9 (HT.out.below hb)
 replace kf := qh9 (kf.out.below hb)
 have F1 := qh9 Q.b0
 clear Q hb T
 go_upto_region 27 with fail
 obtain ⟨f0, f1, f2, f3, f4, f5, f6⟩ := Bx.c F1.out
 clear f0 f1 f3 f4 f5 f6
 generalize dt x.fix = s1 at f2 CG
 go_wp2_with (first | ((with_reducible refine loadB (.tmp 3) ?_ ?_ ?_ B0.out ?_); rfl; rfl; rfl) | ((with_reducible refine loadB (.tmp 5) ?_ ?_ ?_ F1.out ?_); rfl; rfl; rfl) | ((with_reducible refine loadG (.tmp 3) ?_ ?_ ?_ B0.out ?_); rfl; rfl; rfl) | ((with_reducible refine loadG (.tmp 5) ?_ ?_ ?_ F1.out ?_); rfl; rfl; rfl))
 with_reducible refine (CG.out _).mono ?_
 rintro e w2 ⟨pr, rfl, kr, hb⟩
 replace B0 := qh9 (B0.out.keep hb)
 replace K0 := qh9 (K0.out.below hb)
 replace R0 := qh9 (R0.out.keep hb)
 replace HW := qc9 HW hb
 replace HT := qh9 (HT.out.below hb)
 replace kf := qh9 (kf.out.below hb)
 replace F1 := qh9 (F1.out.keep hb)
 clear hb
 replace kr := qh9 kr
 go_wp2_with (first | ((with_reducible refine storeB (w1 := w2) (g := w.heap.size + 1) (b := res) (p := pr) (.tmp 4) (.tmp 76) ?_ ?_ ?_ ?_ kr.out R0.out ?_); rfl; rfl; rfl; rfl) | ((with_reducible refine loadB (.tmp 3) ?_ ?_ ?_ B0.out ?_); rfl; rfl; rfl) | ((with_reducible refine loadB (.tmp 5) ?_ ?_ ?_ F1.out ?_); rfl; rfl; rfl) | ((with_reducible refine loadG (.tmp 3) ?_ ?_ ?_ B0.out ?_); rfl; rfl; rfl) | ((with_reducible refine loadG (.tmp 5) ?_ ?_ ?_ F1.out ?_); rfl; rfl; rfl))
 exact retHs rfl rfl R0.out rfl kr.out (by omega) HW.out
set_option maxHeartbeats 4000000 in
set_option maxRecDepth 100000 in
theorem oneFloor (x : Ob) (p : Value) (w : World) (hx : Hd w x p) (ht : Tab w) (d : Nat) (hd : d ≤ 1000) (hb : Bd d x.fix) : Calls Tryz.prog 41 #[.string ⟨#[102, 108, 111, 111, 114]⟩, vO x p] w (RetH w (inO (x.fix.num / (x.fix.den : Int)))) := by
 have s1 := bd_nt hb
 have s2 := bd_dt hb
 have CD : Hid (∀ W, Calls Tryz.prog 67 #[.string (nt x.fix), .string (dt x.fix)] W (fun e w' => ∃ y, e = .returned (.tuple #[.string (BA (text (x.fix.num / (x.fix.den : Int)))), y]) ∧ Below W.heap.size W w')) := fun W =>
  (divideR (nt x.fix) (dt x.fix) W (by omega) (by omega) (mag_dt _)).mono fun e w' h => by
    obtain ⟨h1, h2⟩ := h
    rw [floor_eq] at h1
    exact ⟨_, h1, h2⟩
 have CG : Hid (∀ W, Calls Tryz.prog 20 #[.string (BA (text (x.fix.num / (x.fix.den : Int)))), .string ⟨#[49]⟩] W (RetH W (inO (x.fix.num / (x.fix.den : Int))))) := fun W => integerR _ W (by
  have h1 : (x.fix.num / (x.fix.den : Int)).natAbs < 10 ^ d := Nat.lt_of_le_of_lt (Int.natAbs_ediv_le_natAbs _ _) hb.1
  have := text_length h1
  rw [BA_size]; omega)
 clear hb s1 s2
 generalize inO (x.fix.num / (x.fix.den : Int)) = res at CG ⊢
 generalize BA (text (x.fix.num / (x.fix.den : Int))) = s3 at CD CG
 have CF : Hid (∀ W, Tab W → Calls Tryz.prog 62 #[vO x p] W (RetH W (.num x.fix))) := fun W h => (fixR x p W (fun q e => by subst e; exact hx.flat rfl) h).mono fun _ _ h => h.h
 obtain ⟨a0, a1, a2, a3, a4, a5, ea⟩ := cells7 (x) p
 have T := Bx2.new w #[a0, a1, a2, a3, a4, a5, p] #[.int .i64 0, .string ⟨#[]⟩, .string ⟨#[]⟩, .string ⟨#[]⟩, .string ⟨#[]⟩, .string ⟨#[]⟩, .slice none 0 0]
 rw [vO_cells ea]
 go_enter Tryz.func41, Tryz.ntmps41
 go_upto_region 1 with fail
 generalize (w.alloc (.cells #[a0, a1, a2, a3, a4, a5, p] 27)).alloc (.cells #[.int .i64 0, .string ⟨#[]⟩, .string ⟨#[]⟩, .string ⟨#[]⟩, .string ⟨#[]⟩, .string ⟨#[]⟩, .slice none 0 0] 27) = W at T ⊢
 have B0 : Hid (Bx W (w.heap.size) (cellsO (x) p).toArray) := by rw [ea]; exact T.b0
 have K0 := qh9 (hx.below T.bel)
 have R0 := qh9 T.b1
 have HW := qh9 T.bel
 have HT := qh9 (ht.below T.bel)
 try rw [← vO_cells ea]
 clear T ea hx ht
 go_wp2_with (first | ((with_reducible refine loadB (.tmp 3) ?_ ?_ ?_ B0.out ?_); rfl; rfl; rfl) | ((with_reducible refine loadG (.tmp 3) ?_ ?_ ?_ B0.out ?_); rfl; rfl; rfl))
 with_reducible refine (CF.out _ HT.out).mono ?_
 rintro e w1 ⟨pf, rfl, kf, hb⟩
 replace B0 := qh9 (B0.out.keep hb)
 replace K0 := qh9 (K0.out.below hb)
 replace R0 := qh9 (R0.out.keep hb)
 replace HW := qc9 HW hb
 replace HT := qh9 (HT.out.below hb)
 clear hb
 replace kf := qh9 kf
 obtain rfl : pf = .slice none 0 0 := kf.out.flat rfl
 clear CF
 have T := qh9 (Bx1.new w1 #[.int .i64 0, .string ⟨#[]⟩, .string ⟨#[]⟩, .string ⟨#[]⟩, .string ⟨#[]⟩, .string ⟨#[]⟩, .slice none 0 0])
 go_upto_region 2 with ((with_reducible refine storeB (w1 := w1) (g := w1.heap.size) (b := .num x.fix) (p := (.slice none 0 0)) (.tmp 5) (.tmp 11) ?_ ?_ ?_ ?_ kf.out T.out.b0 ?_); rfl; rfl; rfl; rfl)
 have Q := Pt1.new (w := w1) (o := .num x.fix) (p := (.slice none 0 0)) (z := #[.int .i64 0, .string ⟨#[]⟩, .string ⟨#[]⟩, .string ⟨#[]⟩, .string ⟨#[]⟩, .string ⟨#[]⟩, .slice none 0 0])
 generalize World.setRow (w1.alloc (.cells #[.int .i64 0, .string ⟨#[]⟩, .string ⟨#[]⟩, .string ⟨#[]⟩, .string ⟨#[]⟩, .string ⟨#[]⟩, .slice none 0 0] 27)) w1.heap.size (cellsO (.num x.fix) (.slice none 0 0)).toArray = X1 at Q ⊢
 have hb := Q.bel
 replace B0 := qh9 (B0.out.keep hb)
 replace K0 := qh9 (K0.out.below hb)
 replace R0 := qh9 (R0.out.keep hb)
 replace HW := qc9 HW hb
 replace HT := qh9 (HT.out.below hb)
 replace kf := qh9 (kf.out.below hb)
 have F1 := qh9 Q.b0
 clear Q hb T
 go_upto_region 29 with fail
 obtain ⟨f0, f1, f2, f3, f4, f5, f6⟩ := Bx.c F1.out
 clear f0 f3 f4 f5 f6
 generalize nt x.fix = s1 at f1 CD
 generalize dt x.fix = s2 at f2 CD
 go_wp2_with (first | ((with_reducible refine loadB (.tmp 3) ?_ ?_ ?_ B0.out ?_); rfl; rfl; rfl) | ((with_reducible refine loadB (.tmp 5) ?_ ?_ ?_ F1.out ?_); rfl; rfl; rfl) | ((with_reducible refine loadG (.tmp 3) ?_ ?_ ?_ B0.out ?_); rfl; rfl; rfl) | ((with_reducible refine loadG (.tmp 5) ?_ ?_ ?_ F1.out ?_); rfl; rfl; rfl))
 with_reducible refine (CD.out _).mono ?_
 rintro e w2 ⟨y, rfl, hb⟩
 replace B0 := qh9 (B0.out.keep hb)
 replace K0 := qh9 (K0.out.below hb)
 replace R0 := qh9 (R0.out.keep hb)
 replace HW := qc9 HW hb
 replace HT := qh9 (HT.out.below hb)
 replace kf := qh9 (kf.out.below hb)
 replace F1 := qh9 (F1.out.keep hb)
 clear hb f1 f2
 go_wp2_with (first | ((with_reducible refine loadB (.tmp 3) ?_ ?_ ?_ B0.out ?_); rfl; rfl; rfl) | ((with_reducible refine loadB (.tmp 5) ?_ ?_ ?_ F1.out ?_); rfl; rfl; rfl) | ((with_reducible refine loadG (.tmp 3) ?_ ?_ ?_ B0.out ?_); rfl; rfl; rfl) | ((with_reducible refine loadG (.tmp 5) ?_ ?_ ?_ F1.out ?_); rfl; rfl; rfl))
 with_reducible refine (CG.out _).mono ?_
 rintro e w3 ⟨pr, rfl, kr, hb⟩
 replace B0 := qh9 (B0.out.keep hb)
 replace K0 := qh9 (K0.out.below hb)
 replace R0 := qh9 (R0.out.keep hb)
 replace HW := qc9 HW hb
 replace HT := qh9 (HT.out.below hb)
 replace kf := qh9 (kf.out.below hb)
 replace F1 := qh9 (F1.out.keep hb)
 clear hb
 replace kr := qh9 kr
 go_wp2_with (first | ((with_reducible refine storeB (w1 := w3) (g := w.heap.size + 1) (b := res) (p := pr) (.tmp 4) (.tmp 88) ?_ ?_ ?_ ?_ kr.out R0.out ?_); rfl; rfl; rfl; rfl) | ((with_reducible refine loadB (.tmp 3) ?_ ?_ ?_ B0.out ?_); rfl; rfl; rfl) | ((with_reducible refine loadB (.tmp 5) ?_ ?_ ?_ F1.out ?_); rfl; rfl; rfl) | ((with_reducible refine loadG (.tmp 3) ?_ ?_ ?_ B0.out ?_); rfl; rfl; rfl) | ((with_reducible refine loadG (.tmp 5) ?_ ?_ ?_ F1.out ?_); rfl; rfl; rfl))
 exact retHs rfl rfl R0.out rfl kr.out (by omega) HW.out
set_option maxHeartbeats 4000000 in
set_option maxRecDepth 100000 in
theorem oneSymName (x : Ob) (p : Value) (w : World) (hx : Hd w x p) (ht : Tab w) : Calls Tryz.prog 41 #[.string ⟨#[115, 121, 109, 98, 111, 108, 45, 110, 97, 109, 101]⟩, vO x p] w (RetH w (.str x.symN)) := by
 have hs : x.symN = LA x.f4 := by cases x <;> first | rfl | exact (LA_BA _).symm
 rw [hs]
 clear hs
 have CF : Hid (∀ W, Tab W → Calls Tryz.prog 62 #[vO x p] W (RetH W (.num x.fix))) := fun W h => (fixR x p W (fun q e => by subst e; exact hx.flat rfl) h).mono fun _ _ h => h.h
 obtain ⟨a0, a1, a2, a3, a4, a5, ea⟩ := cells7 (x) p
 have T := Bx2.new w #[a0, a1, a2, a3, a4, a5, p] #[.int .i64 0, .string ⟨#[]⟩, .string ⟨#[]⟩, .string ⟨#[]⟩, .string ⟨#[]⟩, .string ⟨#[]⟩, .slice none 0 0]
 rw [vO_cells ea]
 go_enter Tryz.func41, Tryz.ntmps41
 go_upto_region 1 with fail
 generalize (w.alloc (.cells #[a0, a1, a2, a3, a4, a5, p] 27)).alloc (.cells #[.int .i64 0, .string ⟨#[]⟩, .string ⟨#[]⟩, .string ⟨#[]⟩, .string ⟨#[]⟩, .string ⟨#[]⟩, .slice none 0 0] 27) = W at T ⊢
 have B0 : Hid (Bx W (w.heap.size) (cellsO (x) p).toArray) := by rw [ea]; exact T.b0
 have K0 := qh9 (hx.below T.bel)
 have R0 := qh9 T.b1
 have HW := qh9 T.bel
 have HT := qh9 (ht.below T.bel)
 try rw [← vO_cells ea]
 clear T ea hx ht
 go_wp2_with (first | ((with_reducible refine loadB (.tmp 3) ?_ ?_ ?_ B0.out ?_); rfl; rfl; rfl) | ((with_reducible refine loadG (.tmp 3) ?_ ?_ ?_ B0.out ?_); rfl; rfl; rfl))
 with_reducible refine (CF.out _ HT.out).mono ?_
 rintro e w1 ⟨pf, rfl, kf, hb⟩
 replace B0 := qh9 (B0.out.keep hb)
 replace K0 := qh9 (K0.out.below hb)
 replace R0 := qh9 (R0.out.keep hb)
 replace HW := qc9 HW hb
 replace HT := qh9 (HT.out.below hb)
 clear hb
 replace kf := qh9 kf
 obtain rfl : pf = .slice none 0 0 := kf.out.flat rfl
 clear CF
 have T := qh9 (Bx1.new w1 #[.int .i64 0, .string ⟨#[]⟩, .string ⟨#[]⟩, .string ⟨#[]⟩, .string ⟨#[]⟩, .string ⟨#[]⟩, .slice none 0 0])
 go_upto_region 2 with ((with_reducible refine storeB (w1 := w1) (g := w1.heap.size) (b := .num x.fix) (p := (.slice none 0 0)) (.tmp 5) (.tmp 11) ?_ ?_ ?_ ?_ kf.out T.out.b0 ?_); rfl; rfl; rfl; rfl)
 have Q := Pt1.new (w := w1) (o := .num x.fix) (p := (.slice none 0 0)) (z := #[.int .i64 0, .string ⟨#[]⟩, .string ⟨#[]⟩, .string ⟨#[]⟩, .string ⟨#[]⟩, .string ⟨#[]⟩, .slice none 0 0])
 generalize World.setRow (w1.alloc (.cells #[.int .i64 0, .string ⟨#[]⟩, .string ⟨#[]⟩, .string ⟨#[]⟩, .string ⟨#[]⟩, .string ⟨#[]⟩, .slice none 0 0] 27)) w1.heap.size (cellsO (.num x.fix) (.slice none 0 0)).toArray = X1 at Q ⊢
 have hb := Q.bel
 replace B0 := qh9 (B0.out.keep hb)
 replace K0 := qh9 (K0.out.below hb)
 replace R0 := qh9 (R0.out.keep hb)
 replace HW := qc9 HW hb
 replace HT := qh9 (HT.out.below hb)
 replace kf := qh9 (kf.out.below hb)
 have F1 := qh9 Q.b0
 clear Q hb T
 go_upto_region 32 with fail
 obtain ⟨m0, m1, m2, m3, m4, m5, m6⟩ := Bx.c (BxK B0.out)
 clear m0 m1 m2 m3 m5 m6
 generalize x.f4 = s at *
 go_wp2_with (first | ((with_reducible refine loadB (.tmp 3) ?_ ?_ ?_ B0.out ?_); rfl; rfl; rfl) | ((with_reducible refine loadB (.tmp 5) ?_ ?_ ?_ F1.out ?_); rfl; rfl; rfl) | ((with_reducible refine loadG (.tmp 3) ?_ ?_ ?_ B0.out ?_); rfl; rfl; rfl) | ((with_reducible refine loadG (.tmp 5) ?_ ?_ ?_ F1.out ?_); rfl; rfl; rfl))
 with_reducible refine (textRH _ _).mono ?_
 rintro e w2 ⟨pr, rfl, kr, hb⟩
 replace B0 := qh9 (B0.out.keep hb)
 replace K0 := qh9 (K0.out.below hb)
 replace R0 := qh9 (R0.out.keep hb)
 replace HW := qc9 HW hb
 replace HT := qh9 (HT.out.below hb)
 replace kf := qh9 (kf.out.below hb)
 replace F1 := qh9 (F1.out.keep hb)
 clear hb
 replace kr := qh9 kr
 go_wp2_with (first | ((with_reducible refine storeB (w1 := w2) (g := w.heap.size + 1) (b := .str (LA s)) (p := pr) (.tmp 4) (.tmp 94) ?_ ?_ ?_ ?_ kr.out R0.out ?_); rfl; rfl; rfl; rfl) | ((with_reducible refine loadB (.tmp 3) ?_ ?_ ?_ B0.out ?_); rfl; rfl; rfl) | ((with_reducible refine loadB (.tmp 5) ?_ ?_ ?_ F1.out ?_); rfl; rfl; rfl) | ((with_reducible refine loadG (.tmp 3) ?_ ?_ ?_ B0.out ?_); rfl; rfl; rfl) | ((with_reducible refine loadG (.tmp 5) ?_ ?_ ?_ F1.out ?_); rfl; rfl; rfl))
 exact retHs rfl rfl R0.out rfl kr.out (by omega) HW.out
set_option maxHeartbeats 4000000 in
set_option maxRecDepth 100000 in
theorem oneSymPack (x : Ob) (p : Value) (w : World) (hx : Hd w x p) (ht : Tab w) : Calls Tryz.prog 41 #[.string ⟨#[115, 121, 109, 98, 111, 108, 45, 112, 97, 99, 107, 97, 103, 101, 45, 110, 97, 109, 101]⟩, vO x p] w (RetH w (.str x.symP)) := by
 have hs : x.symP = LA x.f3 := by cases x <;> first | rfl | exact (LA_BA _).symm
 rw [hs]
 clear hs
 have CF : Hid (∀ W, Tab W → Calls Tryz.prog 62 #[vO x p] W (RetH W (.num x.fix))) := fun W h => (fixR x p W (fun q e => by subst e; exact hx.flat rfl) h).mono fun _ _ h => h.h
 obtain ⟨a0, a1, a2, a3, a4, a5, ea⟩ := cells7 (x) p
 have T := Bx2.new w #[a0, a1, a2, a3, a4, a5, p] #[.int .i64 0, .string ⟨#[]⟩, .string ⟨#[]⟩, .string ⟨#[]⟩, .string ⟨#[]⟩, .string ⟨#[]⟩, .slice none 0 0]
 rw [vO_cells ea]
 go_enter Tryz.func41, Tryz.ntmps41
 go_upto_region 1 with fail
 generalize (w.alloc (.cells #[a0, a1, a2, a3, a4, a5, p] 27)).alloc (.cells #[.int .i64 0, .string ⟨#[]⟩, .string ⟨#[]⟩, .string ⟨#[]⟩, .string ⟨#[]⟩, .string ⟨#[]⟩, .slice none 0 0] 27) = W at T ⊢
 have B0 : Hid (Bx W (w.heap.size) (cellsO (x) p).toArray) := by rw [ea]; exact T.b0
 have K0 := qh9 (hx.below T.bel)
 have R0 := qh9 T.b1
 have HW := qh9 T.bel
 have HT := qh9 (ht.below T.bel)
 try rw [← vO_cells ea]
 clear T ea hx ht
 go_wp2_with (first | ((with_reducible refine loadB (.tmp 3) ?_ ?_ ?_ B0.out ?_); rfl; rfl; rfl) | ((with_reducible refine loadG (.tmp 3) ?_ ?_ ?_ B0.out ?_); rfl; rfl; rfl))
 with_reducible refine (CF.out _ HT.out).mono ?_
 rintro e w1 ⟨pf, rfl, kf, hb⟩
 replace B0 := qh9 (B0.out.keep hb)
 replace K0 := qh9 (K0.out.below hb)
 replace R0 := qh9 (R0.out.keep hb)
 replace HW := qc9 HW hb
 replace HT := qh9 (HT.out.below hb)
 clear hb
 replace kf := qh9 kf
 obtain rfl : pf = .slice none 0 0 := kf.out.flat rfl
 clear CF
 have T := qh9 (Bx1.new w1 #[.int .i64 0, .string ⟨#[]⟩, .string ⟨#[]⟩, .string ⟨#[]⟩, .string ⟨#[]⟩, .string ⟨#[]⟩, .slice none 0 0])
 go_upto_region 2 with ((with_reducible refine storeB (w1 := w1) (g := w1.heap.size) (b := .num x.fix) (p := (.slice none 0 0)) (.tmp 5) (.tmp 11) ?_ ?_ ?_ ?_ kf.out T.out.b0 ?_); rfl; rfl; rfl; rfl)
 have Q := Pt1.new (w := w1) (o := .num x.fix) (p := (.slice none 0 0)) (z := #[.int .i64 0, .string ⟨#[]⟩, .string ⟨#[]⟩, .string ⟨#[]⟩, .string ⟨#[]⟩, .string ⟨#[]⟩, .slice none 0 0])
 generalize World.setRow (w1.alloc (.cells #[.int .i64 0, .string ⟨#[]⟩, .string ⟨#[]⟩, .string ⟨#[]⟩, .string ⟨#[]⟩, .string ⟨#[]⟩, .slice none 0 0] 27)) w1.heap.size (cellsO (.num x.fix) (.slice none 0 0)).toArray = X1 at Q ⊢
 have hb := Q.bel
 replace B0 := qh9 (B0.out.keep hb)
 replace K0 := qh9 (K0.out.below hb)
 replace R0 := qh9 (R0.out.keep hb)
 replace HW := qc9 HW hb
 replace HT := qh9 (HT.out.below hb)
 replace kf := qh9 (kf.out.below hb)
 have F1 := qh9 Q.b0
 clear Q hb T
 go_upto_region 34 with fail
 obtain ⟨m0, m1, m2, m3, m4, m5, m6⟩ := Bx.c (BxK B0.out)
 clear m0 m1 m2 m4 m5 m6
 generalize x.f3 = s at *
 go_wp2_with (first | ((with_reducible refine loadB (.tmp 3) ?_ ?_ ?_ B0.out ?_); rfl; rfl; rfl) | ((with_reducible refine loadB (.tmp 5) ?_ ?_ ?_ F1.out ?_); rfl; rfl; rfl) | ((with_reducible refine loadG (.tmp 3) ?_ ?_ ?_ B0.out ?_); rfl; rfl; rfl) | ((with_reducible refine loadG (.tmp 5) ?_ ?_ ?_ F1.out ?_); rfl; rfl; rfl))
 with_reducible refine (textRH _ _).mono ?_
 rintro e w2 ⟨pr, rfl, kr, hb⟩
 replace B0 := qh9 (B0.out.keep hb)
 replace K0 := qh9 (K0.out.below hb)
 replace R0 := qh9 (R0.out.keep hb)
 replace HW := qc9 HW hb
 replace HT := qh9 (HT.out.below hb)
 replace kf := qh9 (kf.out.below hb)
 replace F1 := qh9 (F1.out.keep hb)
 clear hb
 replace kr := qh9 kr
 go_wp2_with (first | ((with_reducible refine storeB (w1 := w2) (g := w.heap.size + 1) (b := .str (LA s)) (p := pr) (.tmp 4) (.tmp 100) ?_ ?_ ?_ ?_ kr.out R0.out ?_); rfl; rfl; rfl; rfl) | ((with_reducible refine loadB (.tmp 3) ?_ ?_ ?_ B0.out ?_); rfl; rfl; rfl) | ((with_reducible refine loadB (.tmp 5) ?_ ?_ ?_ F1.out ?_); rfl; rfl; rfl) | ((with_reducible refine loadG (.tmp 3) ?_ ?_ ?_ B0.out ?_); rfl; rfl; rfl) | ((with_reducible refine loadG (.tmp 5) ?_ ?_ ?_ F1.out ?_); rfl; rfl; rfl))
 exact retHs rfl rfl R0.out rfl kr.out (by omega) HW.out
set_option maxHeartbeats 4000000 in
set_option maxRecDepth 100000 in
theorem oneStrLen (x : Ob) (p : Value) (w : World) (hx : Hd w x p) (ht : Tab w) (hl : x.strV.length ≤ 2000) : Calls Tryz.prog 41 #[.string ⟨#[115, 116, 114, 105, 110, 103, 45, 108, 101, 110, 103, 116, 104]⟩, vO x p] w (RetH w (inO x.strV.length)) := by
 have CT : Hid (∀ W q, Calls Tryz.prog 68 #[vO x q] W (RetY W (.string (BA x.strV)))) := fun W q => strR x q W
 have CI : Hid (∀ W, Tab W → Calls Tryz.prog 10 #[.int .i64 ((BA x.strV).size : Int)] W (RetH W (inO x.strV.length))) := fun W hT => by
  rw [BA_size]
  exact intRH _ W (i64_small (by omega)) hT
 clear hl
 generalize inO x.strV.length = res at CI ⊢
 generalize BA x.strV = s at CI CT
 have CF : Hid (∀ W, Tab W → Calls Tryz.prog 62 #[vO x p] W (RetH W (.num x.fix))) := fun W h => (fixR x p W (fun q e => by subst e; exact hx.flat rfl) h).mono fun _ _ h => h.h
 obtain ⟨a0, a1, a2, a3, a4, a5, ea⟩ := cells7 (x) p
 have T := Bx2.new w #[a0, a1, a2, a3, a4, a5, p] #[.int .i64 0, .string ⟨#[]⟩, .string ⟨#[]⟩, .string ⟨#[]⟩, .string ⟨#[]⟩, .string ⟨#[]⟩, .slice none 0 0]
 rw [vO_cells ea]
 go_enter Tryz.func41, Tryz.ntmps41
 go_upto_region 1 with fail
 generalize (w.alloc (.cells #[a0, a1, a2, a3, a4, a5, p] 27)).alloc (.cells #[.int .i64 0, .string ⟨#[]⟩, .string ⟨#[]⟩, .string ⟨#[]⟩, .string ⟨#[]⟩, .string ⟨#[]⟩, .slice none 0 0] 27) = W at T ⊢
 have B0 : Hid (Bx W (w.heap.size) (cellsO (x) p).toArray) := by rw [ea]; exact T.b0
 have K0 := qh9 (hx.below T.bel)
 have R0 := qh9 T.b1
 have HW := qh9 T.bel
 have HT := qh9 (ht.below T.bel)
 try rw [← vO_cells ea]
 clear T ea hx ht
 go_wp2_with (first | ((with_reducible refine loadB (.tmp 3) ?_ ?_ ?_ B0.out ?_); rfl; rfl; rfl) | ((with_reducible refine loadG (.tmp 3) ?_ ?_ ?_ B0.out ?_); rfl; rfl; rfl))
 with_reducible refine (CF.out _ HT.out).mono ?_
 rintro e w1 ⟨pf, rfl, kf, hb⟩
 replace B0 := qh9 (B0.out.keep hb)
 replace K0 := qh9 (K0.out.below hb)
 replace R0 := qh9 (R0.out.keep hb)
 replace HW := qc9 HW hb
 replace HT := qh9 (HT.out.below hb)
 clear hb
 replace kf := qh9 kf
 obtain rfl : pf = .slice none 0 0 := kf.out.flat rfl
 clear CF
 have T := qh9 (Bx1.new w1 #[.int .i64 0, .string ⟨#[]⟩, .string ⟨#[]⟩, .string ⟨#[]⟩, .string ⟨#[]⟩, .string ⟨#[]⟩, .slice none 0 0])
 go_upto_region 2 with ((with_reducible refine storeB (w1 := w1) (g := w1.heap.size) (b := .num x.fix) (p := (.slice none 0 0)) (.tmp 5) (.tmp 11) ?_ ?_ ?_ ?_ kf.out T.out.b0 ?_); rfl; rfl; rfl; rfl)
 have Q := Pt1.new (w := w1) (o := .num x.fix) (p := (.slice none 0 0)) (z := #[.int .i64 0, .string ⟨#[]⟩, .string ⟨#[]⟩, .string ⟨#[]⟩, .string ⟨#[]⟩, .string ⟨#[]⟩, .slice none 0 0])
 generalize World.setRow (w1.alloc (.cells #[.int .i64 0, .string ⟨#[]⟩, .string ⟨#[]⟩, .string ⟨#[]⟩, .string ⟨#[]⟩, .string ⟨#[]⟩, .slice none 0 0] 27)) w1.heap.size (cellsO (.num x.fix) (.slice none 0 0)).toArray = X1 at Q ⊢
 have hb := Q.bel
 replace B0 := qh9 (B0.out.keep hb)
 replace K0 := qh9 (K0.out.below hb)
 replace R0 := qh9 (R0.out.keep hb)
 replace HW := qc9 HW hb
 replace HT := qh9 (HT.out.below hb)
 replace kf := qh9 (kf.out.below hb)
 have F1 := qh9 Q.b0
 clear Q hb T
 go_upto_region 36 with fail
 go_wp2_with (first | ((with_reducible refine loadB (.tmp 3) ?_ ?_ ?_ B0.out ?_); rfl; rfl; rfl) | ((with_reducible refine loadB (.tmp 5) ?_ ?_ ?_ F1.out ?_); rfl; rfl; rfl) | ((with_reducible refine loadG (.tmp 3) ?_ ?_ ?_ B0.out ?_); rfl; rfl; rfl) | ((with_reducible refine loadG (.tmp 5) ?_ ?_ ?_ F1.out ?_); rfl; rfl; rfl))
 with_reducible refine (CT.out _ _).mono ?_
 rintro e w2 ⟨rfl, hb⟩
 replace B0 := qh9 (B0.out.keep hb)
 replace K0 := qh9 (K0.out.below hb)
 replace R0 := qh9 (R0.out.keep hb)
 replace HW := qc9 HW hb
 replace HT := qh9 (HT.out.below hb)
 replace kf := qh9 (kf.out.below hb)
 replace F1 := qh9 (F1.out.keep hb)
 clear hb
 go_wp2_with (first | ((with_reducible refine loadB (.tmp 3) ?_ ?_ ?_ B0.out ?_); rfl; rfl; rfl) | ((with_reducible refine loadB (.tmp 5) ?_ ?_ ?_ F1.out ?_); rfl; rfl; rfl) | ((with_reducible refine loadG (.tmp 3) ?_ ?_ ?_ B0.out ?_); rfl; rfl; rfl) | ((with_reducible refine loadG (.tmp 5) ?_ ?_ ?_ F1.out ?_); rfl; rfl; rfl))
 with_reducible refine (CI.out _ HT.out).mono ?_
 rintro e w3 ⟨pr, rfl, kr, hb⟩
 replace B0 := qh9 (B0.out.keep hb)
 replace K0 := qh9 (K0.out.below hb)
 replace R0 := qh9 (R0.out.keep hb)
 replace HW := qc9 HW hb
 replace HT := qh9 (HT.out.below hb)
 replace kf := qh9 (kf.out.below hb)
 replace F1 := qh9 (F1.out.keep hb)
 clear hb
 replace kr := qh9 kr
 go_wp2_with (first | ((with_reducible refine storeB (w1 := w3) (g := w.heap.size + 1) (b := res) (p := pr) (.tmp 4) (.tmp 106) ?_ ?_ ?_ ?_ kr.out R0.out ?_); rfl; rfl; rfl; rfl) | ((with_reducible refine loadB (.tmp 3) ?_ ?_ ?_ B0.out ?_); rfl; rfl; rfl) | ((with_reducible refine loadB (.tmp 5) ?_ ?_ ?_ F1.out ?_); rfl; rfl; rfl) | ((with_reducible refine loadG (.tmp 3) ?_ ?_ ?_ B0.out ?_); rfl; rfl; rfl) | ((with_reducible refine loadG (.tmp 5) ?_ ?_ ?_ F1.out ?_); rfl; rfl; rfl))
 exact retHs rfl rfl R0.out rfl kr.out (by omega) HW.out
set_option maxHeartbeats 4000000 in
set_option maxRecDepth 100000 in
theorem oneByteN (x : Ob) (p : Value) (w : World) (hx : Hd w x p) (ht : Tab w) (CB : Hid (∀ W q, Hd W x q → Calls Tryz.prog 69 #[vO x q] W (RetUB W 0 false))) : Calls Tryz.prog 41 #[.string ⟨#[98, 121, 116, 101, 45, 115, 116, 114, 105, 110, 103]⟩, vO x p] w (RetH w (.str (LA ⟨#[]⟩))) := by
 have CF : Hid (∀ W, Tab W → Calls Tryz.prog 62 #[vO x p] W (RetH W (.num x.fix))) := fun W h => (fixR x p W (fun q e => by subst e; exact hx.flat rfl) h).mono fun _ _ h => h.h
 obtain ⟨a0, a1, a2, a3, a4, a5, ea⟩ := cells7 (x) p
 have T := Bx2.new w #[a0, a1, a2, a3, a4, a5, p] #[.int .i64 0, .string ⟨#[]⟩, .string ⟨#[]⟩, .string ⟨#[]⟩, .string ⟨#[]⟩, .string ⟨#[]⟩, .slice none 0 0]
 rw [vO_cells ea]
 go_enter Tryz.func41, Tryz.ntmps41
 go_upto_region 1 with fail
 generalize (w.alloc (.cells #[a0, a1, a2, a3, a4, a5, p] 27)).alloc (.cells #[.int .i64 0, .string ⟨#[]⟩, .string ⟨#[]⟩, .string ⟨#[]⟩, .string ⟨#[]⟩, .string ⟨#[]⟩, .slice none 0 0] 27) = W at T ⊢
 have B0 : Hid (Bx W (w.heap.size) (cellsO (x) p).toArray) := by rw [ea]; exact T.b0
 have K0 := qh9 (hx.below T.bel)
 have R0 := qh9 T.b1
 have HW := qh9 T.bel
 have HT := qh9 (ht.below T.bel)
 try rw [← vO_cells ea]
 clear T ea hx ht
 go_wp2_with (first | ((with_reducible refine loadB (.tmp 3) ?_ ?_ ?_ B0.out ?_); rfl; rfl; rfl) | ((with_reducible refine loadG (.tmp 3) ?_ ?_ ?_ B0.out ?_); rfl; rfl; rfl))
 with_reducible refine (CF.out _ HT.out).mono ?_
 rintro e w1 ⟨pf, rfl, kf, hb⟩
 replace B0 := qh9 (B0.out.keep hb)
 replace K0 := qh9 (K0.out.below hb)
 replace R0 := qh9 (R0.out.keep hb)
 replace HW := qc9 HW hb
 replace HT := qh9 (HT.out.below hb)
 clear hb
 replace kf := qh9 kf
 obtain rfl : pf = .slice none 0 0 := kf.out.flat rfl
 clear CF
 have T := qh9 (Bx1.new w1 #[.int .i64 0, .string ⟨#[]⟩, .string ⟨#[]⟩, .string ⟨#[]⟩, .string ⟨#[]⟩, .string ⟨#[]⟩, .slice none 0 0])
 go_upto_region 2 with ((with_reducible refine storeB (w1 := w1) (g := w1.heap.size) (b := .num x.fix) (p := (.slice none 0 0)) (.tmp 5) (.tmp 11) ?_ ?_ ?_ ?_ kf.out T.out.b0 ?_); rfl; rfl; rfl; rfl)
 have Q := Pt1.new (w := w1) (o := .num x.fix) (p := (.slice none 0 0)) (z := #[.int .i64 0, .string ⟨#[]⟩, .string ⟨#[]⟩, .string ⟨#[]⟩, .string ⟨#[]⟩, .string ⟨#[]⟩, .slice none 0 0])
 generalize World.setRow (w1.alloc (.cells #[.int .i64 0, .string ⟨#[]⟩, .string ⟨#[]⟩, .string ⟨#[]⟩, .string ⟨#[]⟩, .string ⟨#[]⟩, .slice none 0 0] 27)) w1.heap.size (cellsO (.num x.fix) (.slice none 0 0)).toArray = X1 at Q ⊢
 have hb := Q.bel
 replace B0 := qh9 (B0.out.keep hb)
 replace K0 := qh9 (K0.out.below hb)
 replace R0 := qh9 (R0.out.keep hb)
 replace HW := qc9 HW hb
 replace HT := qh9 (HT.out.below hb)
 replace kf := qh9 (kf.out.below hb)
 have F1 := qh9 Q.b0
 clear Q hb T
 go_upto_region 38 with fail
 go_wp2_with (first | ((with_reducible refine loadB (.tmp 3) ?_ ?_ ?_ B0.out ?_); rfl; rfl; rfl) | ((with_reducible refine loadB (.tmp 5) ?_ ?_ ?_ F1.out ?_); rfl; rfl; rfl) | ((with_reducible refine loadG (.tmp 3) ?_ ?_ ?_ B0.out ?_); rfl; rfl; rfl) | ((with_reducible refine loadG (.tmp 5) ?_ ?_ ?_ F1.out ?_); rfl; rfl; rfl))
 with_reducible refine (CB.out _ _ K0.out).mono ?_
 rintro e w2 ⟨rfl, hb⟩
 replace B0 := qh9 (B0.out.keep hb)
 replace K0 := qh9 (K0.out.below hb)
 replace R0 := qh9 (R0.out.keep hb)
 replace HW := qc9 HW hb
 replace HT := qh9 (HT.out.below hb)
 replace kf := qh9 (kf.out.below hb)
 replace F1 := qh9 (F1.out.keep hb)
 clear hb
 go_wp2_with (first | ((with_reducible refine loadB (.tmp 3) ?_ ?_ ?_ B0.out ?_); rfl; rfl; rfl) | ((with_reducible refine loadB (.tmp 5) ?_ ?_ ?_ F1.out ?_); rfl; rfl; rfl) | ((with_reducible refine loadG (.tmp 3) ?_ ?_ ?_ B0.out ?_); rfl; rfl; rfl) | ((with_reducible refine loadG (.tmp 5) ?_ ?_ ?_ F1.out ?_); rfl; rfl; rfl))
 with_reducible refine (textRH _ _).mono ?_
 rintro e w3 ⟨pr, rfl, kr, hb⟩
 replace B0 := qh9 (B0.out.keep hb)
 replace K0 := qh9 (K0.out.below hb)
 replace R0 := qh9 (R0.out.keep hb)
 replace HW := qc9 HW hb
 replace HT := qh9 (HT.out.below hb)
 replace kf := qh9 (kf.out.below hb)
 replace F1 := qh9 (F1.out.keep hb)
 clear hb
 replace kr := qh9 kr
 go_wp2_with (first | ((with_reducible refine storeB (w1 := w3) (g := w.heap.size + 1) (b := .str (LA ⟨#[]⟩)) (p := pr) (.tmp 4) (.tmp 116) ?_ ?_ ?_ ?_ kr.out R0.out ?_); rfl; rfl; rfl; rfl) | ((with_reducible refine loadB (.tmp 3) ?_ ?_ ?_ B0.out ?_); rfl; rfl; rfl) | ((with_reducible refine loadB (.tmp 5) ?_ ?_ ?_ F1.out ?_); rfl; rfl; rfl) | ((with_reducible refine loadG (.tmp 3) ?_ ?_ ?_ B0.out ?_); rfl; rfl; rfl) | ((with_reducible refine loadG (.tmp 5) ?_ ?_ ?_ F1.out ?_); rfl; rfl; rfl))
 exact retHs rfl rfl R0.out rfl kr.out (by omega) HW.out
set_option maxHeartbeats 4000000 in
set_option maxRecDepth 100000 in
theorem oneByteS (x : Ob) (p : Value) (w : World) (hx : Hd w x p) (ht : Tab w) (k : Nat) (hk : k < 256) (CB : Hid (∀ W q, Hd W x q → Calls Tryz.prog 69 #[vO x q] W (RetUB W (k : Int) true))) : Calls Tryz.prog 41 #[.string ⟨#[98, 121, 116, 101, 45, 115, 116, 114, 105, 110, 103]⟩, vO x p] w (RetH w (.str (LA ⟨#[UInt8.ofNat k]⟩))) := by
 have hconv : ∀ W : World, (convert 33 9 (.slice (some ⟨W.heap.size, 0, none⟩) 1 1)).run Tryz.prog (W.alloc (.cells #[.int .u8 (k : Int)] 5)) = .ok (.string ⟨#[UInt8.ofNat k]⟩) (W.alloc (.cells #[.int .u8 (k : Int)] 5)) := fun W =>
  run_convert_bytes_back _ 33 9 5 ⟨W.heap.size, 0, none⟩ 1 [UInt8.ofNat k] Tryz.underlying33 Tryz.underlying5 Tryz.underlying9 (fun j hj => by
   have hj0 : j = 0 := by simpa using hj
   subst hj0
   show (W.alloc _).cell? ((⟨W.heap.size, 0, none⟩ : Addr).add 0) = some (.int .u8 ((UInt8.ofNat k).toNat : Int))
   rw [show (UInt8.ofNat k).toNat = k from by simp; omega]
   exact cell_one_at W (.int .u8 (k : Int)) _ _ rfl 0 _ rfl)
 have CF : Hid (∀ W, Tab W → Calls Tryz.prog 62 #[vO x p] W (RetH W (.num x.fix))) := fun W h => (fixR x p W (fun q e => by subst e; exact hx.flat rfl) h).mono fun _ _ h => h.h
 obtain ⟨a0, a1, a2, a3, a4, a5, ea⟩ := cells7 (x) p
 have T := Bx2.new w #[a0, a1, a2, a3, a4, a5, p] #[.int .i64 0, .string ⟨#[]⟩, .string ⟨#[]⟩, .string ⟨#[]⟩, .string ⟨#[]⟩, .string ⟨#[]⟩, .slice none 0 0]
 rw [vO_cells ea]
 go_enter Tryz.func41, Tryz.ntmps41
 go_upto_region 1 with fail
 generalize (w.alloc (.cells #[a0, a1, a2, a3, a4, a5, p] 27)).alloc (.cells #[.int .i64 0, .string ⟨#[]⟩, .string ⟨#[]⟩, .string ⟨#[]⟩, .string ⟨#[]⟩, .string ⟨#[]⟩, .slice none 0 0] 27) = W at T ⊢
 have B0 : Hid (Bx W (w.heap.size) (cellsO (x) p).toArray) := by rw [ea]; exact T.b0
 have K0 := qh9 (hx.below T.bel)
 have R0 := qh9 T.b1
 have HW := qh9 T.bel
 have HT := qh9 (ht.below T.bel)
 try rw [← vO_cells ea]
 clear T ea hx ht
 go_wp2_with (first | ((with_reducible refine loadB (.tmp 3) ?_ ?_ ?_ B0.out ?_); rfl; rfl; rfl) | ((with_reducible refine loadG (.tmp 3) ?_ ?_ ?_ B0.out ?_); rfl; rfl; rfl))
 with_reducible refine (CF.out _ HT.out).mono ?_
 rintro e w1 ⟨pf, rfl, kf, hb⟩
 replace B0 := qh9 (B0.out.keep hb)
 replace K0 := qh9 (K0.out.below hb)
 replace R0 := qh9 (R0.out.keep hb)
 replace HW := qc9 HW hb
 replace HT := qh9 (HT.out.below hb)
 clear hb
 replace kf := qh9 kf
 obtain rfl : pf = .slice none 0 0 := kf.out.flat rfl
 clear CF
 have T := qh9 (Bx1.new w1 #[.int .i64 0, .string ⟨#[]⟩, .string ⟨#[]⟩, .string ⟨#[]⟩, .string ⟨#[]⟩, .string ⟨#[]⟩, .slice none 0 0])
 go_upto_region 2 with ((with_reducible refine storeB (w1 := w1) (g := w1.heap.size) (b := .num x.fix) (p := (.slice none 0 0)) (.tmp 5) (.tmp 11) ?_ ?_ ?_ ?_ kf.out T.out.b0 ?_); rfl; rfl; rfl; rfl)
 have Q := Pt1.new (w := w1) (o := .num x.fix) (p := (.slice none 0 0)) (z := #[.int .i64 0, .string ⟨#[]⟩, .string ⟨#[]⟩, .string ⟨#[]⟩, .string ⟨#[]⟩, .string ⟨#[]⟩, .slice none 0 0])
 generalize World.setRow (w1.alloc (.cells #[.int .i64 0, .string ⟨#[]⟩, .string ⟨#[]⟩, .string ⟨#[]⟩, .string ⟨#[]⟩, .string ⟨#[]⟩, .slice none 0 0] 27)) w1.heap.size (cellsO (.num x.fix) (.slice none 0 0)).toArray = X1 at Q ⊢
 have hb := Q.bel
 replace B0 := qh9 (B0.out.keep hb)
 replace K0 := qh9 (K0.out.below hb)
 replace R0 := qh9 (R0.out.keep hb)
 replace HW := qc9 HW hb
 replace HT := qh9 (HT.out.below hb)
 replace kf := qh9 (kf.out.below hb)
 have F1 := qh9 Q.b0
 clear Q hb T
 go_upto_region 38 with fail
 go_wp2_with (first | ((with_reducible refine loadB (.tmp 3) ?_ ?_ ?_ B0.out ?_); rfl; rfl; rfl) | ((with_reducible refine loadB (.tmp 5) ?_ ?_ ?_ F1.out ?_); rfl; rfl; rfl) | ((with_reducible refine loadG (.tmp 3) ?_ ?_ ?_ B0.out ?_); rfl; rfl; rfl) | ((with_reducible refine loadG (.tmp 5) ?_ ?_ ?_ F1.out ?_); rfl; rfl; rfl))
 with_reducible refine (CB.out _ _ K0.out).mono ?_
 rintro e w2 ⟨rfl, hb⟩
 replace B0 := qh9 (B0.out.keep hb)
 replace K0 := qh9 (K0.out.below hb)
 replace R0 := qh9 (R0.out.keep hb)
 replace HW := qc9 HW hb
 replace HT := qh9 (HT.out.below hb)
 replace kf := qh9 (kf.out.below hb)
 replace F1 := qh9 (F1.out.keep hb)
 clear hb
 go_wp2_with (first | ((with_reducible refine loadB (.tmp 3) ?_ ?_ ?_ B0.out ?_); rfl; rfl; rfl) | ((with_reducible refine loadB (.tmp 5) ?_ ?_ ?_ F1.out ?_); rfl; rfl; rfl) | ((with_reducible refine loadG (.tmp 3) ?_ ?_ ?_ B0.out ?_); rfl; rfl; rfl) | ((with_reducible refine loadG (.tmp 5) ?_ ?_ ?_ F1.out ?_); rfl; rfl; rfl))
 have hb : Below w2.heap.size w2 (w2.alloc (.cells #[.int .u8 (k : Int)] 5)) := Below.alloc (Below.refl _ _) (Nat.le_refl _) _
 generalize w2.alloc (.cells #[.int .u8 (k : Int)] 5) = Y1 at hb ⊢
 replace B0 := qh9 (B0.out.keep hb)
 replace K0 := qh9 (K0.out.below hb)
 replace R0 := qh9 (R0.out.keep hb)
 replace HW := qc9 HW hb
 replace HT := qh9 (HT.out.below hb)
 replace kf := qh9 (kf.out.below hb)
 replace F1 := qh9 (F1.out.keep hb)
 clear hb
 with_reducible refine (textRH _ _).mono ?_
 rintro e w3 ⟨pr, rfl, kr, hb⟩
 replace B0 := qh9 (B0.out.keep hb)
 replace K0 := qh9 (K0.out.below hb)
 replace R0 := qh9 (R0.out.keep hb)
 replace HW := qc9 HW hb
 replace HT := qh9 (HT.out.below hb)
 replace kf := qh9 (kf.out.below hb)
 replace F1 := qh9 (F1.out.keep hb)
 clear hb
 replace kr := qh9 kr
 go_wp2_with (first | ((with_reducible refine storeB (w1 := w3) (g := w.heap.size + 1) (b := .str (LA ⟨#[UInt8.ofNat k]⟩)) (p := pr) (.tmp 4) (.tmp 120) ?_ ?_ ?_ ?_ kr.out R0.out ?_); rfl; rfl; rfl; rfl) | ((with_reducible refine loadB (.tmp 3) ?_ ?_ ?_ B0.out ?_); rfl; rfl; rfl) | ((with_reducible refine loadB (.tmp 5) ?_ ?_ ?_ F1.out ?_); rfl; rfl; rfl) | ((with_reducible refine loadG (.tmp 3) ?_ ?_ ?_ B0.out ?_); rfl; rfl; rfl) | ((with_reducible refine loadG (.tmp 5) ?_ ?_ ?_ F1.out ?_); rfl; rfl; rfl))
 exact retHs rfl rfl R0.out rfl kr.out (by omega) HW.out
theorem oneByte (x : Ob) (p : Value) (w : World) (hx : Hd w x p) (ht : Tab w) (h64 : IntO x) : Calls Tryz.prog 41 #[.string ⟨#[98, 121, 116, 101, 45, 115, 116, 114, 105, 110, 103]⟩, vO x p] w (RetH w (.str (match idxV 256 x with
 | some k => [UInt8.ofNat k]
 | none => []))) := by
 have CB := fun W q (hq : Hd W x q) => octetR x q W hq h64
 have hk : ∀ k, idxV 256 x = some k → k < 256 := fun k h => idxV_lt h
 generalize idxV 256 x = r at CB hk ⊢
 cases r with
 | none => exact oneByteN x p w hx ht CB
 | some k => exact oneByteS x p w hx ht k (hk k rfl) CB
set_option maxHeartbeats 4000000 in
set_option maxRecDepth 100000 in
theorem oneCarC (a d : Ob) (p : Value) (w : World) (hx : Hd w (.cons a d) p) (ht : Tab w) : Calls Tryz.prog 41 #[.string ⟨#[99, 97, 114]⟩, vO (.cons a d) p] w (RetH w a) := by
 obtain ⟨x, hxe⟩ : ∃ x, x = Ob.cons a d := ⟨_, rfl⟩
 obtain ⟨b1, o1, n1, pa, pd, hpe, hn1, ha, hd⟩ := hx.cons
 have CI : Hid (∀ W q, Hd W x q → Calls Tryz.prog 63 #[vO x q] W (RetB W true)) := fun W q hq => by subst hxe; exact isConsR _ q W (Has W) hq
 rw [← hxe] at hx ⊢
 clear hxe
 have HA := qh9 ha
 have HD := qh9 hd
 have HP := qh9 hpe
 clear ha hd hpe
 have CF : Hid (∀ W, Tab W → Calls Tryz.prog 62 #[vO x p] W (RetH W (.num x.fix))) := fun W h => (fixR x p W (fun q e => by subst e; exact hx.flat rfl) h).mono fun _ _ h => h.h
 obtain ⟨a0, a1, a2, a3, a4, a5, ea⟩ := cells7 (x) p
 have T := Bx2.new w #[a0, a1, a2, a3, a4, a5, p] #[.int .i64 0, .string ⟨#[]⟩, .string ⟨#[]⟩, .string ⟨#[]⟩, .string ⟨#[]⟩, .string ⟨#[]⟩, .slice none 0 0]
 rw [vO_cells ea]
 go_enter Tryz.func41, Tryz.ntmps41
 go_upto_region 1 with fail
 generalize (w.alloc (.cells #[a0, a1, a2, a3, a4, a5, p] 27)).alloc (.cells #[.int .i64 0, .string ⟨#[]⟩, .string ⟨#[]⟩, .string ⟨#[]⟩, .string ⟨#[]⟩, .string ⟨#[]⟩, .slice none 0 0] 27) = W at T ⊢
 have B0 : Hid (Bx W (w.heap.size) (cellsO (x) p).toArray) := by rw [ea]; exact T.b0
 have K0 := qh9 (hx.below T.bel)
 have R0 := qh9 T.b1
 have HW := qh9 T.bel
 have HT := qh9 (ht.below T.bel)
 try rw [← vO_cells ea]
 clear T ea hx ht
 go_wp2_with (first | ((with_reducible refine loadB (.tmp 3) ?_ ?_ ?_ B0.out ?_); rfl; rfl; rfl) | ((with_reducible refine loadG (.tmp 3) ?_ ?_ ?_ B0.out ?_); rfl; rfl; rfl))
 with_reducible refine (CF.out _ HT.out).mono ?_
 rintro e w1 ⟨pf, rfl, kf, hb⟩
 replace B0 := qh9 (B0.out.keep hb)
 replace K0 := qh9 (K0.out.below hb)
 replace R0 := qh9 (R0.out.keep hb)
 replace HW := qc9 HW hb
 replace HT := qh9 (HT.out.below hb)
 clear hb
 replace kf := qh9 kf
 obtain rfl : pf = .slice none 0 0 := kf.out.flat rfl
 clear CF
 have T := qh9 (Bx1.new w1 #[.int .i64 0, .string ⟨#[]⟩, .string ⟨#[]⟩, .string ⟨#[]⟩, .string ⟨#[]⟩, .string ⟨#[]⟩, .slice none 0 0])
 go_upto_region 2 with ((with_reducible refine storeB (w1 := w1) (g := w1.heap.size) (b := .num x.fix) (p := (.slice none 0 0)) (.tmp 5) (.tmp 11) ?_ ?_ ?_ ?_ kf.out T.out.b0 ?_); rfl; rfl; rfl; rfl)
 have Q := Pt1.new (w := w1) (o := .num x.fix) (p := (.slice none 0 0)) (z := #[.int .i64 0, .string ⟨#[]⟩, .string ⟨#[]⟩, .string ⟨#[]⟩, .string ⟨#[]⟩, .string ⟨#[]⟩, .slice none 0 0])
 generalize World.setRow (w1.alloc (.cells #[.int .i64 0, .string ⟨#[]⟩, .string ⟨#[]⟩, .string ⟨#[]⟩, .string ⟨#[]⟩, .string ⟨#[]⟩, .slice none 0 0] 27)) w1.heap.size (cellsO (.num x.fix) (.slice none 0 0)).toArray = X1 at Q ⊢
 have hb := Q.bel
 replace B0 := qh9 (B0.out.keep hb)
 replace K0 := qh9 (K0.out.below hb)
 replace R0 := qh9 (R0.out.keep hb)
 replace HW := qc9 HW hb
 replace HT := qh9 (HT.out.below hb)
 replace kf := qh9 (kf.out.below hb)
 have F1 := qh9 Q.b0
 clear Q hb T
 go_upto_region 5 with fail
 replace HA := qh9 (HA.out.below HW.out)
 replace HD := qh9 (HD.out.below HW.out)
 go_wp2_with (first | ((with_reducible refine loadB (.tmp 3) ?_ ?_ ?_ B0.out ?_); rfl; rfl; rfl) | ((with_reducible refine loadB (.tmp 5) ?_ ?_ ?_ F1.out ?_); rfl; rfl; rfl) | ((with_reducible refine loadG (.tmp 3) ?_ ?_ ?_ B0.out ?_); rfl; rfl; rfl) | ((with_reducible refine loadG (.tmp 5) ?_ ?_ ?_ F1.out ?_); rfl; rfl; rfl) | ((with_reducible refine loadA ?_ ?_ HA.out ?_); exact ⟨_, rfl, rfl⟩; rfl) | ((with_reducible refine loadAG ?_ ?_ HA.out ?_); exact ⟨_, rfl, rfl⟩; rfl) | ((with_reducible refine loadA ?_ ?_ HD.out ?_); exact ⟨_, rfl, rfl⟩; rfl) | ((with_reducible refine loadAG ?_ ?_ HD.out ?_); exact ⟨_, rfl, rfl⟩; rfl))
 with_reducible refine (CI.out _ _ K0.out).mono ?_
 rintro e w2 ⟨rfl, hb⟩
 replace B0 := qh9 (B0.out.keep hb)
 replace K0 := qh9 (K0.out.below hb)
 replace R0 := qh9 (R0.out.keep hb)
 replace HW := qc9 HW hb
 replace HT := qh9 (HT.out.below hb)
 replace kf := qh9 (kf.out.below hb)
 replace F1 := qh9 (F1.out.keep hb)
 replace HA := qh9 (HA.out.below hb)
 replace HD := qh9 (HD.out.below hb)
 clear hb
 obtain ⟨m0, m1, m2, m3, m4, m5, m6⟩ := Bx.c (BxK B0.out)
 clear m0 m1 m2 m3 m4 m5
 rw [HP.out] at m6
 have KR := qh9 HA.out.hd
 go_wp2_with (first | ((with_reducible refine storeB (w1 := w2) (g := w.heap.size + 1) (b := a) (p := pa) (.tmp 4) (.tmp 25) ?_ ?_ ?_ ?_ KR.out R0.out ?_); rfl; rfl; rfl; rfl) | ((with_reducible refine loadB (.tmp 3) ?_ ?_ ?_ B0.out ?_); rfl; rfl; rfl) | ((with_reducible refine loadB (.tmp 5) ?_ ?_ ?_ F1.out ?_); rfl; rfl; rfl) | ((with_reducible refine loadG (.tmp 3) ?_ ?_ ?_ B0.out ?_); rfl; rfl; rfl) | ((with_reducible refine loadG (.tmp 5) ?_ ?_ ?_ F1.out ?_); rfl; rfl; rfl) | ((with_reducible refine loadA ?_ ?_ HA.out ?_); exact ⟨_, rfl, rfl⟩; rfl) | ((with_reducible refine loadAG ?_ ?_ HA.out ?_); exact ⟨_, rfl, rfl⟩; rfl) | ((with_reducible refine loadA ?_ ?_ HD.out ?_); exact ⟨_, rfl, rfl⟩; rfl) | ((with_reducible refine loadAG ?_ ?_ HD.out ?_); exact ⟨_, rfl, rfl⟩; rfl))
 exact retHs rfl rfl R0.out rfl KR.out (by omega) HW.out
set_option maxHeartbeats 4000000 in
set_option maxRecDepth 100000 in
theorem oneCarN (x : Ob) (p : Value) (w : World) (hx : Hd w x p) (ht : Tab w) (hn : x.isCons = false) : Calls Tryz.prog 41 #[.string ⟨#[99, 97, 114]⟩, vO x p] w (RetH w .nil) := by
 have CI : Hid (∀ W q, Hd W x q → Calls Tryz.prog 63 #[vO x q] W (RetB W false)) := fun W q hq => by rw [← hn]; exact isConsR _ q W (Has W) hq
 have CF : Hid (∀ W, Tab W → Calls Tryz.prog 62 #[vO x p] W (RetH W (.num x.fix))) := fun W h => (fixR x p W (fun q e => by subst e; exact hx.flat rfl) h).mono fun _ _ h => h.h
 obtain ⟨a0, a1, a2, a3, a4, a5, ea⟩ := cells7 (x) p
 have T := Bx2.new w #[a0, a1, a2, a3, a4, a5, p] #[.int .i64 0, .string ⟨#[]⟩, .string ⟨#[]⟩, .string ⟨#[]⟩, .string ⟨#[]⟩, .string ⟨#[]⟩, .slice none 0 0]
 rw [vO_cells ea]
 go_enter Tryz.func41, Tryz.ntmps41
 go_upto_region 1 with fail
 generalize (w.alloc (.cells #[a0, a1, a2, a3, a4, a5, p] 27)).alloc (.cells #[.int .i64 0, .string ⟨#[]⟩, .string ⟨#[]⟩, .string ⟨#[]⟩, .string ⟨#[]⟩, .string ⟨#[]⟩, .slice none 0 0] 27) = W at T ⊢
 have B0 : Hid (Bx W (w.heap.size) (cellsO (x) p).toArray) := by rw [ea]; exact T.b0
 have K0 := qh9 (hx.below T.bel)
 have R0 := qh9 T.b1
 have HW := qh9 T.bel
 have HT := qh9 (ht.below T.bel)
 try rw [← vO_cells ea]
 clear T ea hx ht
 go_wp2_with (first | ((with_reducible refine loadB (.tmp 3) ?_ ?_ ?_ B0.out ?_); rfl; rfl; rfl) | ((with_reducible refine loadG (.tmp 3) ?_ ?_ ?_ B0.out ?_); rfl; rfl; rfl))
 with_reducible refine (CF.out _ HT.out).mono ?_
 rintro e w1 ⟨pf, rfl, kf, hb⟩
 replace B0 := qh9 (B0.out.keep hb)
 replace K0 := qh9 (K0.out.below hb)
 replace R0 := qh9 (R0.out.keep hb)
 replace HW := qc9 HW hb
 replace HT := qh9 (HT.out.below hb)
 clear hb
 replace kf := qh9 kf
 obtain rfl : pf = .slice none 0 0 := kf.out.flat rfl
 clear CF
 have T := qh9 (Bx1.new w1 #[.int .i64 0, .string ⟨#[]⟩, .string ⟨#[]⟩, .string ⟨#[]⟩, .string ⟨#[]⟩, .string ⟨#[]⟩, .slice none 0 0])
 go_upto_region 2 with ((with_reducible refine storeB (w1 := w1) (g := w1.heap.size) (b := .num x.fix) (p := (.slice none 0 0)) (.tmp 5) (.tmp 11) ?_ ?_ ?_ ?_ kf.out T.out.b0 ?_); rfl; rfl; rfl; rfl)
 have Q := Pt1.new (w := w1) (o := .num x.fix) (p := (.slice none 0 0)) (z := #[.int .i64 0, .string ⟨#[]⟩, .string ⟨#[]⟩, .string ⟨#[]⟩, .string ⟨#[]⟩, .string ⟨#[]⟩, .slice none 0 0])
 generalize World.setRow (w1.alloc (.cells #[.int .i64 0, .string ⟨#[]⟩, .string ⟨#[]⟩, .string ⟨#[]⟩, .string ⟨#[]⟩, .string ⟨#[]⟩, .slice none 0 0] 27)) w1.heap.size (cellsO (.num x.fix) (.slice none 0 0)).toArray = X1 at Q ⊢
 have hb := Q.bel
 replace B0 := qh9 (B0.out.keep hb)
 replace K0 := qh9 (K0.out.below hb)
 replace R0 := qh9 (R0.out.keep hb)
 replace HW := qc9 HW hb
 replace HT := qh9 (HT.out.below hb)
 replace kf := qh9 (kf.out.below hb)
 have F1 := qh9 Q.b0
 clear Q hb T
 go_upto_region 5 with fail
 go_wp2_with (first | ((with_reducible refine loadB (.tmp 3) ?_ ?_ ?_ B0.out ?_); rfl; rfl; rfl) | ((with_reducible refine loadB (.tmp 5) ?_ ?_ ?_ F1.out ?_); rfl; rfl; rfl) | ((with_reducible refine loadG (.tmp 3) ?_ ?_ ?_ B0.out ?_); rfl; rfl; rfl) | ((with_reducible refine loadG (.tmp 5) ?_ ?_ ?_ F1.out ?_); rfl; rfl; rfl))
 with_reducible refine (CI.out _ _ K0.out).mono ?_
 rintro e w2 ⟨rfl, hb⟩
 replace B0 := qh9 (B0.out.keep hb)
 replace K0 := qh9 (K0.out.below hb)
 replace R0 := qh9 (R0.out.keep hb)
 replace HW := qc9 HW hb
 replace HT := qh9 (HT.out.below hb)
 replace kf := qh9 (kf.out.below hb)
 replace F1 := qh9 (F1.out.keep hb)
 clear hb
 go_wp2_with (first | ((with_reducible refine loadB (.tmp 3) ?_ ?_ ?_ B0.out ?_); rfl; rfl; rfl) | ((with_reducible refine loadB (.tmp 5) ?_ ?_ ?_ F1.out ?_); rfl; rfl; rfl) | ((with_reducible refine loadG (.tmp 3) ?_ ?_ ?_ B0.out ?_); rfl; rfl; rfl) | ((with_reducible refine loadG (.tmp 5) ?_ ?_ ?_ F1.out ?_); rfl; rfl; rfl))
 with_reducible refine (nilRH _).mono ?_
 rintro e w3 ⟨pn, rfl, kn, hb⟩
 replace B0 := qh9 (B0.out.keep hb)
 replace K0 := qh9 (K0.out.below hb)
 replace R0 := qh9 (R0.out.keep hb)
 replace HW := qc9 HW hb
 replace HT := qh9 (HT.out.below hb)
 replace kf := qh9 (kf.out.below hb)
 replace F1 := qh9 (F1.out.keep hb)
 clear hb
 replace kn := qh9 kn
 go_wp2_with (first | ((with_reducible refine storeB (w1 := w3) (g := w.heap.size + 1) (b := .nil) (p := pn) (.tmp 4) (.tmp 19) ?_ ?_ ?_ ?_ kn.out R0.out ?_); rfl; rfl; rfl; rfl) | ((with_reducible refine loadB (.tmp 3) ?_ ?_ ?_ B0.out ?_); rfl; rfl; rfl) | ((with_reducible refine loadB (.tmp 5) ?_ ?_ ?_ F1.out ?_); rfl; rfl; rfl) | ((with_reducible refine loadG (.tmp 3) ?_ ?_ ?_ B0.out ?_); rfl; rfl; rfl) | ((with_reducible refine loadG (.tmp 5) ?_ ?_ ?_ F1.out ?_); rfl; rfl; rfl))
 exact retHs rfl rfl R0.out rfl kn.out (by omega) HW.out
theorem oneCar : ∀ (x : Ob) (p : Value) (w : World) (hx : Hd w x p) (ht : Tab w), Calls Tryz.prog 41 #[.string ⟨#[99, 97, 114]⟩, vO x p] w (RetH w x.carV)
 | .cons a d, p, w, hx, ht => oneCarC a d p w hx ht
 | .num q, p, w, hx, ht => oneCarN (.num q) p w hx ht rfl
 | .str q, p, w, hx, ht => oneCarN (.str q) p w hx ht rfl
 | .sym q q', p, w, hx, ht => oneCarN (.sym q q') p w hx ht rfl
set_option maxHeartbeats 4000000 in
set_option maxRecDepth 100000 in
theorem oneCdrC (a d : Ob) (p : Value) (w : World) (hx : Hd w (.cons a d) p) (ht : Tab w) : Calls Tryz.prog 41 #[.string ⟨#[99, 100, 114]⟩, vO (.cons a d) p] w (RetH w d) := by
 obtain ⟨x, hxe⟩ : ∃ x, x = Ob.cons a d := ⟨_, rfl⟩
 obtain ⟨b1, o1, n1, pa, pd, hpe, hn1, ha, hd⟩ := hx.cons
 have CI : Hid (∀ W q, Hd W x q → Calls Tryz.prog 63 #[vO x q] W (RetB W true)) := fun W q hq => by subst hxe; exact isConsR _ q W (Has W) hq
 rw [← hxe] at hx ⊢
 clear hxe
 have HA := qh9 ha
 have HD := qh9 hd
 have HP := qh9 hpe
 clear ha hd hpe
 have CF : Hid (∀ W, Tab W → Calls Tryz.prog 62 #[vO x p] W (RetH W (.num x.fix))) := fun W h => (fixR x p W (fun q e => by subst e; exact hx.flat rfl) h).mono fun _ _ h => h.h
 obtain ⟨a0, a1, a2, a3, a4, a5, ea⟩ := cells7 (x) p
 have T := Bx2.new w #[a0, a1, a2, a3, a4, a5, p] #[.int .i64 0, .string ⟨#[]⟩, .string ⟨#[]⟩, .string ⟨#[]⟩, .string ⟨#[]⟩, .string ⟨#[]⟩, .slice none 0 0]
 rw [vO_cells ea]
 go_enter Tryz.func41, Tryz.ntmps41
 go_upto_region 1 with fail
 generalize (w.alloc (.cells #[a0, a1, a2, a3, a4, a5, p] 27)).alloc (.cells #[.int .i64 0, .string ⟨#[]⟩, .string ⟨#[]⟩, .string ⟨#[]⟩, .string ⟨#[]⟩, .string ⟨#[]⟩, .slice none 0 0] 27) = W at T ⊢
 have B0 : Hid (Bx W (w.heap.size) (cellsO (x) p).toArray) := by rw [ea]; exact T.b0
 have K0 := qh9 (hx.below T.bel)
 have R0 := qh9 T.b1
 have HW := qh9 T.bel
 have HT := qh9 (ht.below T.bel)
 try rw [← vO_cells ea]
 clear T ea hx ht
 go_wp2_with (first | ((with_reducible refine loadB (.tmp 3) ?_ ?_ ?_ B0.out ?_); rfl; rfl; rfl) | ((with_reducible refine loadG (.tmp 3) ?_ ?_ ?_ B0.out ?_); rfl; rfl; rfl))
 with_reducible refine (CF.out _ HT.out).mono ?_
 rintro e w1 ⟨pf, rfl, kf, hb⟩
 replace B0 := qh9 (B0.out.keep hb)
 replace K0 := qh9 (K0.out.below hb)
 replace R0 := qh9 (R0.out.keep hb)
 replace HW := qc9 HW hb
 replace HT := qh9 (HT.out.below hb)
 clear hb
 replace kf := qh9 kf
 obtain rfl : pf = .slice none 0 0 := kf.out.flat rfl
 clear CF
 have T := qh9 (Bx1.new w1 #[.int .i64 0, .string ⟨#[]⟩, .string ⟨#[]⟩, .string ⟨#[]⟩, .string ⟨#[]⟩, .string ⟨#[]⟩, .slice none 0 0])
 go_upto_region 2 with ((with_reducible refine storeB (w1 := w1) (g := w1.heap.size) (b := .num x.fix) (p := (.slice none 0 0)) (.tmp 5) (.tmp 11) ?_ ?_ ?_ ?_ kf.out T.out.b0 ?_); rfl; rfl; rfl; rfl)
 have Q := Pt1.new (w := w1) (o := .num x.fix) (p := (.slice none 0 0)) (z := #[.int .i64 0, .string ⟨#[]⟩, .string ⟨#[]⟩, .string ⟨#[]⟩, .string ⟨#[]⟩, .string ⟨#[]⟩, .slice none 0 0])
 generalize World.setRow (w1.alloc (.cells #[.int .i64 0, .string ⟨#[]⟩, .string ⟨#[]⟩, .string ⟨#[]⟩, .string ⟨#[]⟩, .string ⟨#[]⟩, .slice none 0 0] 27)) w1.heap.size (cellsO (.num x.fix) (.slice none 0 0)).toArray = X1 at Q ⊢
 have hb := Q.bel
 replace B0 := qh9 (B0.out.keep hb)
 replace K0 := qh9 (K0.out.below hb)
 replace R0 := qh9 (R0.out.keep hb)
 replace HW := qc9 HW hb
 replace HT := qh9 (HT.out.below hb)
 replace kf := qh9 (kf.out.below hb)
 have F1 := qh9 Q.b0
 clear Q hb T
 go_upto_region 5 with fail
 replace HA := qh9 (HA.out.below HW.out)
 replace HD := qh9 (HD.out.below HW.out)
 go_wp2_with (first | ((with_reducible refine loadB (.tmp 3) ?_ ?_ ?_ B0.out ?_); rfl; rfl; rfl) | ((with_reducible refine loadB (.tmp 5) ?_ ?_ ?_ F1.out ?_); rfl; rfl; rfl) | ((with_reducible refine loadG (.tmp 3) ?_ ?_ ?_ B0.out ?_); rfl; rfl; rfl) | ((with_reducible refine loadG (.tmp 5) ?_ ?_ ?_ F1.out ?_); rfl; rfl; rfl) | ((with_reducible refine loadA ?_ ?_ HA.out ?_); exact ⟨_, rfl, rfl⟩; rfl) | ((with_reducible refine loadAG ?_ ?_ HA.out ?_); exact ⟨_, rfl, rfl⟩; rfl) | ((with_reducible refine loadA ?_ ?_ HD.out ?_); exact ⟨_, rfl, rfl⟩; rfl) | ((with_reducible refine loadAG ?_ ?_ HD.out ?_); exact ⟨_, rfl, rfl⟩; rfl))
 with_reducible refine (CI.out _ _ K0.out).mono ?_
 rintro e w2 ⟨rfl, hb⟩
 replace B0 := qh9 (B0.out.keep hb)
 replace K0 := qh9 (K0.out.below hb)
 replace R0 := qh9 (R0.out.keep hb)
 replace HW := qc9 HW hb
 replace HT := qh9 (HT.out.below hb)
 replace kf := qh9 (kf.out.below hb)
 replace F1 := qh9 (F1.out.keep hb)
 replace HA := qh9 (HA.out.below hb)
 replace HD := qh9 (HD.out.below hb)
 clear hb
 obtain ⟨m0, m1, m2, m3, m4, m5, m6⟩ := Bx.c (BxK B0.out)
 clear m0 m1 m2 m3 m4 m5
 rw [HP.out] at m6
 have KR := qh9 HD.out.hd
 go_wp2_with (first | ((with_reducible refine storeB (w1 := w2) (g := w.heap.size + 1) (b := d) (p := pd) (.tmp 4) (.tmp 29) ?_ ?_ ?_ ?_ KR.out R0.out ?_); rfl; rfl; rfl; rfl) | ((with_reducible refine loadB (.tmp 3) ?_ ?_ ?_ B0.out ?_); rfl; rfl; rfl) | ((with_reducible refine loadB (.tmp 5) ?_ ?_ ?_ F1.out ?_); rfl; rfl; rfl) | ((with_reducible refine loadG (.tmp 3) ?_ ?_ ?_ B0.out ?_); rfl; rfl; rfl) | ((with_reducible refine loadG (.tmp 5) ?_ ?_ ?_ F1.out ?_); rfl; rfl; rfl) | ((with_reducible refine loadA ?_ ?_ HA.out ?_); exact ⟨_, rfl, rfl⟩; rfl) | ((with_reducible refine loadAG ?_ ?_ HA.out ?_); exact ⟨_, rfl, rfl⟩; rfl) | ((with_reducible refine loadA ?_ ?_ HD.out ?_); exact ⟨_, rfl, rfl⟩; rfl) | ((with_reducible refine loadAG ?_ ?_ HD.out ?_); exact ⟨_, rfl, rfl⟩; rfl))
 exact retHs rfl rfl R0.out rfl KR.out (by omega) HW.out
set_option maxHeartbeats 4000000 in
set_option maxRecDepth 100000 in
theorem oneCdrN (x : Ob) (p : Value) (w : World) (hx : Hd w x p) (ht : Tab w) (hn : x.isCons = false) : Calls Tryz.prog 41 #[.string ⟨#[99, 100, 114]⟩, vO x p] w (RetH w .nil) := by
 have CI : Hid (∀ W q, Hd W x q → Calls Tryz.prog 63 #[vO x q] W (RetB W false)) := fun W q hq => by rw [← hn]; exact isConsR _ q W (Has W) hq
 have CF : Hid (∀ W, Tab W → Calls Tryz.prog 62 #[vO x p] W (RetH W (.num x.fix))) := fun W h => (fixR x p W (fun q e => by subst e; exact hx.flat rfl) h).mono fun _ _ h => h.h
 obtain ⟨a0, a1, a2, a3, a4, a5, ea⟩ := cells7 (x) p
 have T := Bx2.new w #[a0, a1, a2, a3, a4, a5, p] #[.int .i64 0, .string ⟨#[]⟩, .string ⟨#[]⟩, .string ⟨#[]⟩, .string ⟨#[]⟩, .string ⟨#[]⟩, .slice none 0 0]
 rw [vO_cells ea]
 go_enter Tryz.func41, Tryz.ntmps41
 go_upto_region 1 with fail
 generalize (w.alloc (.cells #[a0, a1, a2, a3, a4, a5, p] 27)).alloc (.cells #[.int .i64 0, .string ⟨#[]⟩, .string ⟨#[]⟩, .string ⟨#[]⟩, .string ⟨#[]⟩, .string ⟨#[]⟩, .slice none 0 0] 27) = W at T ⊢
 have B0 : Hid (Bx W (w.heap.size) (cellsO (x) p).toArray) := by rw [ea]; exact T.b0
 have K0 := qh9 (hx.below T.bel)
 have R0 := qh9 T.b1
 have HW := qh9 T.bel
 have HT := qh9 (ht.below T.bel)
 try rw [← vO_cells ea]
 clear T ea hx ht
 go_wp2_with (first | ((with_reducible refine loadB (.tmp 3) ?_ ?_ ?_ B0.out ?_); rfl; rfl; rfl) | ((with_reducible refine loadG (.tmp 3) ?_ ?_ ?_ B0.out ?_); rfl; rfl; rfl))
 with_reducible refine (CF.out _ HT.out).mono ?_
 rintro e w1 ⟨pf, rfl, kf, hb⟩
 replace B0 := qh9 (B0.out.keep hb)
 replace K0 := qh9 (K0.out.below hb)
 replace R0 := qh9 (R0.out.keep hb)
 replace HW := qc9 HW hb
 replace HT := qh9 (HT.out.below hb)
 clear hb
 replace kf := qh9 kf
 obtain rfl : pf = .slice none 0 0 := kf.out.flat rfl
 clear CF
 have T := qh9 (Bx1.new w1 #[.int .i64 0, .string ⟨#[]⟩, .string ⟨#[]⟩, .string ⟨#[]⟩, .string ⟨#[]⟩, .string ⟨#[]⟩, .slice none 0 0])
 go_upto_region 2 with ((with_reducible refine storeB (w1 := w1) (g := w1.heap.size) (b := .num x.fix) (p := (.slice none 0 0)) (.tmp 5) (.tmp 11) ?_ ?_ ?_ ?_ kf.out T.out.b0 ?_); rfl; rfl; rfl; rfl)
 have Q := Pt1.new (w := w1) (o := .num x.fix) (p := (.slice none 0 0)) (z := #[.int .i64 0, .string ⟨#[]⟩, .string ⟨#[]⟩, .string ⟨#[]⟩, .string ⟨#[]⟩, .string ⟨#[]⟩, .slice none 0 0])
 generalize World.setRow (w1.alloc (.cells #[.int .i64 0, .string ⟨#[]⟩, .string ⟨#[]⟩, .string ⟨#[]⟩, .string ⟨#[]⟩, .string ⟨#[]⟩, .slice none 0 0] 27)) w1.heap.size (cellsO (.num x.fix) (.slice none 0 0)).toArray = X1 at Q ⊢
 have hb := Q.bel
 replace B0 := qh9 (B0.out.keep hb)
 replace K0 := qh9 (K0.out.below hb)
 replace R0 := qh9 (R0.out.keep hb)
 replace HW := qc9 HW hb
 replace HT := qh9 (HT.out.below hb)
 replace kf := qh9 (kf.out.below hb)
 have F1 := qh9 Q.b0
 clear Q hb T
 go_upto_region 5 with fail
 go_wp2_with (first | ((with_reducible refine loadB (.tmp 3) ?_ ?_ ?_ B0.out ?_); rfl; rfl; rfl) | ((with_reducible refine loadB (.tmp 5) ?_ ?_ ?_ F1.out ?_); rfl; rfl; rfl) | ((with_reducible refine loadG (.tmp 3) ?_ ?_ ?_ B0.out ?_); rfl; rfl; rfl) | ((with_reducible refine loadG (.tmp 5) ?_ ?_ ?_ F1.out ?_); rfl; rfl; rfl))
 with_reducible refine (CI.out _ _ K0.out).mono ?_
 rintro e w2 ⟨rfl, hb⟩
 replace B0 := qh9 (B0.out.keep hb)
 replace K0 := qh9 (K0.out.below hb)
 replace R0 := qh9 (R0.out.keep hb)
 replace HW := qc9 HW hb
 replace HT := qh9 (HT.out.below hb)
 replace kf := qh9 (kf.out.below hb)
 replace F1 := qh9 (F1.out.keep hb)
 clear hb
 go_wp2_with (first | ((with_reducible refine loadB (.tmp 3) ?_ ?_ ?_ B0.out ?_); rfl; rfl; rfl) | ((with_reducible refine loadB (.tmp 5) ?_ ?_ ?_ F1.out ?_); rfl; rfl; rfl) | ((with_reducible refine loadG (.tmp 3) ?_ ?_ ?_ B0.out ?_); rfl; rfl; rfl) | ((with_reducible refine loadG (.tmp 5) ?_ ?_ ?_ F1.out ?_); rfl; rfl; rfl))
 with_reducible refine (nilRH _).mono ?_
 rintro e w3 ⟨pn, rfl, kn, hb⟩
 replace B0 := qh9 (B0.out.keep hb)
 replace K0 := qh9 (K0.out.below hb)
 replace R0 := qh9 (R0.out.keep hb)
 replace HW := qc9 HW hb
 replace HT := qh9 (HT.out.below hb)
 replace kf := qh9 (kf.out.below hb)
 replace F1 := qh9 (F1.out.keep hb)
 clear hb
 replace kn := qh9 kn
 go_wp2_with (first | ((with_reducible refine storeB (w1 := w3) (g := w.heap.size + 1) (b := .nil) (p := pn) (.tmp 4) (.tmp 19) ?_ ?_ ?_ ?_ kn.out R0.out ?_); rfl; rfl; rfl; rfl) | ((with_reducible refine loadB (.tmp 3) ?_ ?_ ?_ B0.out ?_); rfl; rfl; rfl) | ((with_reducible refine loadB (.tmp 5) ?_ ?_ ?_ F1.out ?_); rfl; rfl; rfl) | ((with_reducible refine loadG (.tmp 3) ?_ ?_ ?_ B0.out ?_); rfl; rfl; rfl) | ((with_reducible refine loadG (.tmp 5) ?_ ?_ ?_ F1.out ?_); rfl; rfl; rfl))
 exact retHs rfl rfl R0.out rfl kn.out (by omega) HW.out
theorem oneCdr : ∀ (x : Ob) (p : Value) (w : World) (hx : Hd w x p) (ht : Tab w), Calls Tryz.prog 41 #[.string ⟨#[99, 100, 114]⟩, vO x p] w (RetH w x.cdrV)
 | .cons a d, p, w, hx, ht => oneCdrC a d p w hx ht
 | .num q, p, w, hx, ht => oneCdrN (.num q) p w hx ht rfl
 | .str q, p, w, hx, ht => oneCdrN (.str q) p w hx ht rfl
 | .sym q q', p, w, hx, ht => oneCdrN (.sym q q') p w hx ht rfl
end Go.Proofs.YtbffnoodpoagcaaGreatDoor
