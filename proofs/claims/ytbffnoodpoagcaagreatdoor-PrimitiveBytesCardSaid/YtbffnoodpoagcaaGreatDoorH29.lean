import Derived.Test.YtbffnoodpoagcaaGreatDoorAl
import Derived.Test.YtbffnoodpoagcaaGreatDoorH28
import Derived.Test.YtbffnoodpoagcaaGreatDoorH20
import Derived.BigRegion
import Derived.Test.YtbffnoodpoagcaaGreatDoorH21
import Derived.Deep.RegionHeld3
import Derived.OwnWalk
import Derived.Deep.MidRow
import Derived.Test.YtbffnoodpoagcaaGreatDoorH18
import Derived.Test.YtbffnoodpoagcaaGreatDoorH12
namespace Go.Proofs.YtbffnoodpoagcaaGreatDoor
open Go Go.RowKit
set_option linter.unusedVariables false
set_option maxHeartbeats 4000000 in
set_option maxRecDepth 100000 in
theorem applyR3FT (fp fn : ByteArray) (x y z : Ob) (p q r : Value) (b o c : Nat) (w : World) (CF : Hid (∀ W, Calls Tryz.prog 24 #[.agg #[.string fp, .string fn]] W (RetIB W 3 true))) (hx : Ad w x b o p) (hy : Ad w y b (o + 7) q) (hz : Ad w z b (o + 14) r) (hc : 3 ≤ c) (ht : Tab w)
 (CN : Hid (∀ W s, Hd W x s → Calls Tryz.prog 29 #[vO x s] W (RetB W true))) (CO : Hid (∀ W q, Hd W z q → Tab W → Calls Tryz.prog 11 #[vO z q] W (RetB W false))) : Calls Tryz.prog 22 #[.agg #[.string fp, .string fn], .slice (some ⟨b, o, none⟩) 3 c] w (RetE w (none, 2)) := by
 have HT := qh9 ht
 have HX := qh9 hx
 have HY := qh9 hy
 have HZ := qh9 hz
 clear ht hx hy hz
 have A0 := ApW.new w fp fn
 go_enter Tryz.func22, Tryz.ntmps22
 go_wp2_with fail
 generalize (w.alloc (.cells #[.string fp, .string fn] 24)).alloc (.cells #[.int .i64 0, .string ⟨#[]⟩, .string ⟨#[]⟩, .string ⟨#[]⟩, .string ⟨#[]⟩, .string ⟨#[]⟩, .slice none 0 0] 27) = W at A0 ⊢
 refine (CF.out W).mono ?_
 rintro e w1 ⟨rfl, hb⟩
 have AX := qh9 (A0.keep hb)
 have HL := qh9 (show w.heap.size + 2 ≤ w1.heap.size from by have h1 := A0.r.lt; have h2 := hb.size; omega)
 clear A0 hb CF
 have T := Bx1.new w1 #[.int .i64 0, .string ⟨#[]⟩, .string ⟨#[]⟩, .string ⟨#[]⟩, .string ⟨#[]⟩, .string ⟨#[]⟩, .slice none 0 0]
 go_upto_region 8 with fail
 generalize w1.alloc (.cells #[.int .i64 0, .string ⟨#[]⟩, .string ⟨#[]⟩, .string ⟨#[]⟩, .string ⟨#[]⟩, .string ⟨#[]⟩, .slice none 0 0] 27) = W1 at T ⊢
 have hb := T.bel
 replace AX := qh9 (AX.out.keep hb)
 have B0 := qh9 T.b0
 clear T hb
 have HY1 := qh9 (HY.out.below AX.out.bel)
 go_upto_region 9 with (first
  | ((with_reducible refine loadA ?_ ?_ HY1.out ?_); exact ⟨_, rfl, rfl⟩; rfl)
  | ((with_reducible refine storeB (w1 := W1) (g := w1.heap.size) (b := y) (p := q) (.tmp 8) (.tmp 25) ?_ ?_ ?_ ?_ HY1.out.hd B0.out ?_); rfl; rfl; rfl; rfl))
 have hlr : w.heap.size + 2 ≤ w1.heap.size := HL.out
 have AX2 : ApW w (World.setRow W1 w1.heap.size (cellsO y q).toArray) fp fn := ⟨below_setRowO AX.out.bel (by omega) _, (setRow_other _ _ _ _ (by omega)).trans AX.out.s, AX.out.r.other (by omega)⟩
 have B1' := Bx.set (y := (cellsO y q).toArray) B0.out
 generalize World.setRow W1 w1.heap.size (cellsO y q).toArray = X2 at AX2 B1' ⊢
 replace AX := qh9 AX2
 have B1 := qh9 B1'
 clear AX2 B1' B0 HY1
 have HX1 := qh9 (HX.out.below AX.out.bel)
 go_wp2_with (first
  | ((with_reducible refine loadA ?_ ?_ HX1.out ?_); exact ⟨_, rfl, rfl⟩; rfl))
 refine (CN.out _ _ HX1.out.hd).mono ?_
 rintro e w2 ⟨rfl, hb⟩
 replace AX := qh9 (AX.out.keep hb)
 replace B1 := qh9 (B1.out.keep hb)
 clear hb HX1 CN
 have HZ1 := qh9 (HZ.out.below AX.out.bel)
 obtain ⟨y0, y1, y2, y3, y4, y5, ey⟩ := cells7 y q
 have B2 : Hid (Bx w2 w1.heap.size #[y0, y1, y2, y3, y4, y5, q]) := by
  have := B1.out
  rw [ey] at this
  exact this
 clear B1 ey
 go_upto_region 15 with (first
  | ((with_reducible refine loadA ?_ ?_ HZ1.out ?_); exact ⟨_, rfl, rfl⟩; rfl)
  | ((with_reducible refine storeB (w1 := w2) (g := w1.heap.size) (b := z) (p := r) (.tmp 8) (.tmp 32) ?_ ?_ ?_ ?_ HZ1.out.hd B2.out ?_); rfl; rfl; rfl; rfl))
 have AX2 : ApW w (World.setRow w2 w1.heap.size (cellsO z r).toArray) fp fn := ⟨below_setRowO AX.out.bel (by omega) _, (setRow_other _ _ _ _ (by omega)).trans AX.out.s, AX.out.r.other (by omega)⟩
 have B1' := Bx.set (y := (cellsO z r).toArray) B2.out
 generalize World.setRow w2 w1.heap.size (cellsO z r).toArray = X3 at AX2 B1' ⊢
 replace AX := qh9 AX2
 have B1 := qh9 B1'
 clear AX2 B1' B2 HZ1
 have KP := qh9 (HZ.out.below AX.out.bel).hd
 go_wp2_with ((with_reducible refine loadB (.tmp 8) ?_ ?_ ?_ B1.out ?_); rfl; rfl; rfl)
 refine (CO.out _ _ KP.out (HT.out.below AX.out.bel)).mono ?_
 rintro e w9 ⟨rfl, hb⟩
 replace AX := qh9 (AX.out.keep hb)
 replace KP := qh9 (KP.out.below hb)
 replace B1 := qh9 (B1.out.keep hb)
 clear hb CO
 go_wp2_with ((with_reducible refine storeZ (g := w.heap.size + 1) (.tmp 4) (.tmp 55) ?_ ?_ ?_ ?_ AX.out.r ?_); rfl; rfl; rfl; rfl)
 exact retEz rfl rfl rfl AX.out.r (by omega) AX.out.bel
set_option maxHeartbeats 4000000 in
set_option maxRecDepth 100000 in
theorem applyR3FF (fp fn : ByteArray) (x y z : Ob) (p q r : Value) (b o c : Nat) (w : World) (CF : Hid (∀ W, Calls Tryz.prog 24 #[.agg #[.string fp, .string fn]] W (RetIB W 3 true))) (hx : Ad w x b o p) (hy : Ad w y b (o + 7) q) (hz : Ad w z b (o + 14) r) (hc : 3 ≤ c) (ht : Tab w)
 (CN : Hid (∀ W s, Hd W x s → Calls Tryz.prog 29 #[vO x s] W (RetB W false))) (CO : Hid (∀ W q, Hd W y q → Tab W → Calls Tryz.prog 11 #[vO y q] W (RetB W false))) : Calls Tryz.prog 22 #[.agg #[.string fp, .string fn], .slice (some ⟨b, o, none⟩) 3 c] w (RetE w (none, 2)) := by
 have HT := qh9 ht
 have HX := qh9 hx
 have HY := qh9 hy
 have HZ := qh9 hz
 clear ht hx hy hz
 have A0 := ApW.new w fp fn
 go_enter Tryz.func22, Tryz.ntmps22
 go_wp2_with fail
 generalize (w.alloc (.cells #[.string fp, .string fn] 24)).alloc (.cells #[.int .i64 0, .string ⟨#[]⟩, .string ⟨#[]⟩, .string ⟨#[]⟩, .string ⟨#[]⟩, .string ⟨#[]⟩, .slice none 0 0] 27) = W at A0 ⊢
 refine (CF.out W).mono ?_
 rintro e w1 ⟨rfl, hb⟩
 have AX := qh9 (A0.keep hb)
 have HL := qh9 (show w.heap.size + 2 ≤ w1.heap.size from by have h1 := A0.r.lt; have h2 := hb.size; omega)
 clear A0 hb CF
 have T := Bx1.new w1 #[.int .i64 0, .string ⟨#[]⟩, .string ⟨#[]⟩, .string ⟨#[]⟩, .string ⟨#[]⟩, .string ⟨#[]⟩, .slice none 0 0]
 go_upto_region 8 with fail
 generalize w1.alloc (.cells #[.int .i64 0, .string ⟨#[]⟩, .string ⟨#[]⟩, .string ⟨#[]⟩, .string ⟨#[]⟩, .string ⟨#[]⟩, .slice none 0 0] 27) = W1 at T ⊢
 have hb := T.bel
 replace AX := qh9 (AX.out.keep hb)
 have B0 := qh9 T.b0
 clear T hb
 have HY1 := qh9 (HY.out.below AX.out.bel)
 go_upto_region 9 with (first
  | ((with_reducible refine loadA ?_ ?_ HY1.out ?_); exact ⟨_, rfl, rfl⟩; rfl)
  | ((with_reducible refine storeB (w1 := W1) (g := w1.heap.size) (b := y) (p := q) (.tmp 8) (.tmp 25) ?_ ?_ ?_ ?_ HY1.out.hd B0.out ?_); rfl; rfl; rfl; rfl))
 have hlr : w.heap.size + 2 ≤ w1.heap.size := HL.out
 have AX2 : ApW w (World.setRow W1 w1.heap.size (cellsO y q).toArray) fp fn := ⟨below_setRowO AX.out.bel (by omega) _, (setRow_other _ _ _ _ (by omega)).trans AX.out.s, AX.out.r.other (by omega)⟩
 have B1' := Bx.set (y := (cellsO y q).toArray) B0.out
 generalize World.setRow W1 w1.heap.size (cellsO y q).toArray = X2 at AX2 B1' ⊢
 replace AX := qh9 AX2
 have B1 := qh9 B1'
 clear AX2 B1' B0 HY1
 have HX1 := qh9 (HX.out.below AX.out.bel)
 go_wp2_with (first
  | ((with_reducible refine loadA ?_ ?_ HX1.out ?_); exact ⟨_, rfl, rfl⟩; rfl))
 refine (CN.out _ _ HX1.out.hd).mono ?_
 rintro e w2 ⟨rfl, hb⟩
 replace AX := qh9 (AX.out.keep hb)
 replace B1 := qh9 (B1.out.keep hb)
 clear hb HX1 CN
 have KP := qh9 (HY.out.below AX.out.bel).hd
 go_wp2_with ((with_reducible refine loadB (.tmp 8) ?_ ?_ ?_ B1.out ?_); rfl; rfl; rfl)
 refine (CO.out _ _ KP.out (HT.out.below AX.out.bel)).mono ?_
 rintro e w9 ⟨rfl, hb⟩
 replace AX := qh9 (AX.out.keep hb)
 replace KP := qh9 (KP.out.below hb)
 replace B1 := qh9 (B1.out.keep hb)
 clear hb CO
 go_wp2_with ((with_reducible refine storeZ (g := w.heap.size + 1) (.tmp 4) (.tmp 55) ?_ ?_ ?_ ?_ AX.out.r ?_); rfl; rfl; rfl; rfl)
 exact retEz rfl rfl rfl AX.out.r (by omega) AX.out.bel
set_option maxHeartbeats 4000000 in
set_option maxRecDepth 100000 in
theorem applyR3TT (fp fn : ByteArray) (x y z : Ob) (p q r : Value) (b o c : Nat) (w : World) (CF : Hid (∀ W, Calls Tryz.prog 24 #[.agg #[.string fp, .string fn]] W (RetIB W 3 true))) (hx : Ad w x b o p) (hy : Ad w y b (o + 7) q) (hz : Ad w z b (o + 14) r) (hc : 3 ≤ c) (ht : Tab w)
 (CN : Hid (∀ W s, Hd W x s → Calls Tryz.prog 29 #[vO x s] W (RetB W true))) (CO : Hid (∀ W q, Hd W z q → Tab W → Calls Tryz.prog 11 #[vO z q] W (RetB W true))) : Calls Tryz.prog 22 #[.agg #[.string fp, .string fn], .slice (some ⟨b, o, none⟩) 3 c] w (RetE w (some z, 0)) := by
 have HT := qh9 ht
 have HX := qh9 hx
 have HY := qh9 hy
 have HZ := qh9 hz
 clear ht hx hy hz
 have A0 := ApW.new w fp fn
 go_enter Tryz.func22, Tryz.ntmps22
 go_wp2_with fail
 generalize (w.alloc (.cells #[.string fp, .string fn] 24)).alloc (.cells #[.int .i64 0, .string ⟨#[]⟩, .string ⟨#[]⟩, .string ⟨#[]⟩, .string ⟨#[]⟩, .string ⟨#[]⟩, .slice none 0 0] 27) = W at A0 ⊢
 refine (CF.out W).mono ?_
 rintro e w1 ⟨rfl, hb⟩
 have AX := qh9 (A0.keep hb)
 have HL := qh9 (show w.heap.size + 2 ≤ w1.heap.size from by have h1 := A0.r.lt; have h2 := hb.size; omega)
 clear A0 hb CF
 have T := Bx1.new w1 #[.int .i64 0, .string ⟨#[]⟩, .string ⟨#[]⟩, .string ⟨#[]⟩, .string ⟨#[]⟩, .string ⟨#[]⟩, .slice none 0 0]
 go_upto_region 8 with fail
 generalize w1.alloc (.cells #[.int .i64 0, .string ⟨#[]⟩, .string ⟨#[]⟩, .string ⟨#[]⟩, .string ⟨#[]⟩, .string ⟨#[]⟩, .slice none 0 0] 27) = W1 at T ⊢
 have hb := T.bel
 replace AX := qh9 (AX.out.keep hb)
 have B0 := qh9 T.b0
 clear T hb
 have HY1 := qh9 (HY.out.below AX.out.bel)
 go_upto_region 9 with (first
  | ((with_reducible refine loadA ?_ ?_ HY1.out ?_); exact ⟨_, rfl, rfl⟩; rfl)
  | ((with_reducible refine storeB (w1 := W1) (g := w1.heap.size) (b := y) (p := q) (.tmp 8) (.tmp 25) ?_ ?_ ?_ ?_ HY1.out.hd B0.out ?_); rfl; rfl; rfl; rfl))
 have hlr : w.heap.size + 2 ≤ w1.heap.size := HL.out
 have AX2 : ApW w (World.setRow W1 w1.heap.size (cellsO y q).toArray) fp fn := ⟨below_setRowO AX.out.bel (by omega) _, (setRow_other _ _ _ _ (by omega)).trans AX.out.s, AX.out.r.other (by omega)⟩
 have B1' := Bx.set (y := (cellsO y q).toArray) B0.out
 generalize World.setRow W1 w1.heap.size (cellsO y q).toArray = X2 at AX2 B1' ⊢
 replace AX := qh9 AX2
 have B1 := qh9 B1'
 clear AX2 B1' B0 HY1
 have HX1 := qh9 (HX.out.below AX.out.bel)
 go_wp2_with (first
  | ((with_reducible refine loadA ?_ ?_ HX1.out ?_); exact ⟨_, rfl, rfl⟩; rfl))
 refine (CN.out _ _ HX1.out.hd).mono ?_
 rintro e w2 ⟨rfl, hb⟩
 replace AX := qh9 (AX.out.keep hb)
 replace B1 := qh9 (B1.out.keep hb)
 clear hb HX1 CN
 have HZ1 := qh9 (HZ.out.below AX.out.bel)
 obtain ⟨y0, y1, y2, y3, y4, y5, ey⟩ := cells7 y q
 have B2 : Hid (Bx w2 w1.heap.size #[y0, y1, y2, y3, y4, y5, q]) := by
  have := B1.out
  rw [ey] at this
  exact this
 clear B1 ey
 go_upto_region 15 with (first
  | ((with_reducible refine loadA ?_ ?_ HZ1.out ?_); exact ⟨_, rfl, rfl⟩; rfl)
  | ((with_reducible refine storeB (w1 := w2) (g := w1.heap.size) (b := z) (p := r) (.tmp 8) (.tmp 32) ?_ ?_ ?_ ?_ HZ1.out.hd B2.out ?_); rfl; rfl; rfl; rfl))
 have AX2 : ApW w (World.setRow w2 w1.heap.size (cellsO z r).toArray) fp fn := ⟨below_setRowO AX.out.bel (by omega) _, (setRow_other _ _ _ _ (by omega)).trans AX.out.s, AX.out.r.other (by omega)⟩
 have B1' := Bx.set (y := (cellsO z r).toArray) B2.out
 generalize World.setRow w2 w1.heap.size (cellsO z r).toArray = X3 at AX2 B1' ⊢
 replace AX := qh9 AX2
 have B1 := qh9 B1'
 clear AX2 B1' B2 HZ1
 have KP := qh9 (HZ.out.below AX.out.bel).hd
 go_wp2_with ((with_reducible refine loadB (.tmp 8) ?_ ?_ ?_ B1.out ?_); rfl; rfl; rfl)
 refine (CO.out _ _ KP.out (HT.out.below AX.out.bel)).mono ?_
 rintro e w9 ⟨rfl, hb⟩
 replace AX := qh9 (AX.out.keep hb)
 replace KP := qh9 (KP.out.below hb)
 replace B1 := qh9 (B1.out.keep hb)
 clear hb CO
 go_wp2_with (first | ((with_reducible refine loadB (.tmp 8) ?_ ?_ ?_ B1.out ?_); rfl; rfl; rfl) | ((with_reducible refine storeB (w1 := w9) (g := w.heap.size + 1) (b := z) (p := r) (.tmp 4) (.tmp 56) ?_ ?_ ?_ ?_ KP.out AX.out.r ?_); rfl; rfl; rfl; rfl))
 exact retEo rfl rfl rfl AX.out.r rfl KP.out (by omega) AX.out.bel
set_option maxHeartbeats 4000000 in
set_option maxRecDepth 100000 in
theorem applyR3TF (fp fn : ByteArray) (x y z : Ob) (p q r : Value) (b o c : Nat) (w : World) (CF : Hid (∀ W, Calls Tryz.prog 24 #[.agg #[.string fp, .string fn]] W (RetIB W 3 true))) (hx : Ad w x b o p) (hy : Ad w y b (o + 7) q) (hz : Ad w z b (o + 14) r) (hc : 3 ≤ c) (ht : Tab w)
 (CN : Hid (∀ W s, Hd W x s → Calls Tryz.prog 29 #[vO x s] W (RetB W false))) (CO : Hid (∀ W q, Hd W y q → Tab W → Calls Tryz.prog 11 #[vO y q] W (RetB W true))) : Calls Tryz.prog 22 #[.agg #[.string fp, .string fn], .slice (some ⟨b, o, none⟩) 3 c] w (RetE w (some y, 0)) := by
 have HT := qh9 ht
 have HX := qh9 hx
 have HY := qh9 hy
 have HZ := qh9 hz
 clear ht hx hy hz
 have A0 := ApW.new w fp fn
 go_enter Tryz.func22, Tryz.ntmps22
 go_wp2_with fail
 generalize (w.alloc (.cells #[.string fp, .string fn] 24)).alloc (.cells #[.int .i64 0, .string ⟨#[]⟩, .string ⟨#[]⟩, .string ⟨#[]⟩, .string ⟨#[]⟩, .string ⟨#[]⟩, .slice none 0 0] 27) = W at A0 ⊢
 refine (CF.out W).mono ?_
 rintro e w1 ⟨rfl, hb⟩
 have AX := qh9 (A0.keep hb)
 have HL := qh9 (show w.heap.size + 2 ≤ w1.heap.size from by have h1 := A0.r.lt; have h2 := hb.size; omega)
 clear A0 hb CF
 have T := Bx1.new w1 #[.int .i64 0, .string ⟨#[]⟩, .string ⟨#[]⟩, .string ⟨#[]⟩, .string ⟨#[]⟩, .string ⟨#[]⟩, .slice none 0 0]
 go_upto_region 8 with fail
 generalize w1.alloc (.cells #[.int .i64 0, .string ⟨#[]⟩, .string ⟨#[]⟩, .string ⟨#[]⟩, .string ⟨#[]⟩, .string ⟨#[]⟩, .slice none 0 0] 27) = W1 at T ⊢
 have hb := T.bel
 replace AX := qh9 (AX.out.keep hb)
 have B0 := qh9 T.b0
 clear T hb
 have HY1 := qh9 (HY.out.below AX.out.bel)
 go_upto_region 9 with (first
  | ((with_reducible refine loadA ?_ ?_ HY1.out ?_); exact ⟨_, rfl, rfl⟩; rfl)
  | ((with_reducible refine storeB (w1 := W1) (g := w1.heap.size) (b := y) (p := q) (.tmp 8) (.tmp 25) ?_ ?_ ?_ ?_ HY1.out.hd B0.out ?_); rfl; rfl; rfl; rfl))
 have hlr : w.heap.size + 2 ≤ w1.heap.size := HL.out
 have AX2 : ApW w (World.setRow W1 w1.heap.size (cellsO y q).toArray) fp fn := ⟨below_setRowO AX.out.bel (by omega) _, (setRow_other _ _ _ _ (by omega)).trans AX.out.s, AX.out.r.other (by omega)⟩
 have B1' := Bx.set (y := (cellsO y q).toArray) B0.out
 generalize World.setRow W1 w1.heap.size (cellsO y q).toArray = X2 at AX2 B1' ⊢
 replace AX := qh9 AX2
 have B1 := qh9 B1'
 clear AX2 B1' B0 HY1
 have HX1 := qh9 (HX.out.below AX.out.bel)
 go_wp2_with (first
  | ((with_reducible refine loadA ?_ ?_ HX1.out ?_); exact ⟨_, rfl, rfl⟩; rfl))
 refine (CN.out _ _ HX1.out.hd).mono ?_
 rintro e w2 ⟨rfl, hb⟩
 replace AX := qh9 (AX.out.keep hb)
 replace B1 := qh9 (B1.out.keep hb)
 clear hb HX1 CN
 have KP := qh9 (HY.out.below AX.out.bel).hd
 go_wp2_with ((with_reducible refine loadB (.tmp 8) ?_ ?_ ?_ B1.out ?_); rfl; rfl; rfl)
 refine (CO.out _ _ KP.out (HT.out.below AX.out.bel)).mono ?_
 rintro e w9 ⟨rfl, hb⟩
 replace AX := qh9 (AX.out.keep hb)
 replace KP := qh9 (KP.out.below hb)
 replace B1 := qh9 (B1.out.keep hb)
 clear hb CO
 go_wp2_with (first | ((with_reducible refine loadB (.tmp 8) ?_ ?_ ?_ B1.out ?_); rfl; rfl; rfl) | ((with_reducible refine storeB (w1 := w9) (g := w.heap.size + 1) (b := y) (p := q) (.tmp 4) (.tmp 56) ?_ ?_ ?_ ?_ KP.out AX.out.r ?_); rfl; rfl; rfl; rfl))
 exact retEo rfl rfl rfl AX.out.r rfl KP.out (by omega) AX.out.bel

set_option maxHeartbeats 4000000 in
set_option maxRecDepth 100000 in
theorem isNilR (o : Ob) (p : Value) (w : World) (S : Nat → Prop) (hS : In S w) (h : Pair w S o p) : Calls Tryz.prog 29 #[vO o p] w (RetB w (decide (o = .nil))) := by
 obtain ⟨x0, x1, x2, x3, x4, x5, e⟩ := cells7 o p
 have ev : vO o p = .agg #[x0, x1, x2, x3, x4, x5, p] := by unfold vO; rw [e]
 have CE : Hid (∀ X', Below w.heap.size w X' → Calls Tryz.prog 12 #[.agg #[x0, x1, x2, x3, x4, x5, p], .agg #[.int .i64 2, .string ⟨#[]⟩, .string ⟨#[]⟩, .string (BA lispB), .string (BA [110, 105, 108]), .string ⟨#[]⟩, .slice none 0 0]] X' (RetB X' (decide (o = .nil)))) := fun X' hb => by
  rw [← ev]
  exact equalO o .nil p (.slice none 0 0) X' S (hS.later hb.size) (h.below hS hb) rfl
 have CN : Hid (∀ X', Calls Tryz.prog 14 #[] X' fun e w' => e = .returned (.agg #[.int .i64 2, .string ⟨#[]⟩, .string ⟨#[]⟩, .string (BA lispB), .string (BA [110, 105, 108]), .string ⟨#[]⟩, .slice none 0 0]) ∧ Below X'.heap.size X' w') := fun X' => (nilO X' NoB).mono fun _ _ ⟨p, h1, h2, h3⟩ => by
  have e : p = .slice none 0 0 := h2
  subst e
  exact ⟨h1, h3⟩
 rw [ev]
 generalize decide (o = Ob.nil) = b at CE ⊢
 clear ev e h
 have hb0 : Below w.heap.size w (w.alloc (.cells #[x0, x1, x2, x3, x4, x5, p] 27)) := Below.alloc (Below.refl _ _) (Nat.le_refl _) _
 have hg0 := heap_alloc_new w (.cells #[x0, x1, x2, x3, x4, x5, p] 27)
 go_enter Tryz.func29, Tryz.ntmps29
 go_wp2_with fail
 generalize w.alloc (.cells #[x0, x1, x2, x3, x4, x5, p] 27) = W at hb0 hg0 ⊢
 have FC : Hid (∀ X', Below W.heap.size W X' → X'.cell? ⟨w.heap.size, 0, none⟩ = some x0 ∧ X'.cell? ⟨w.heap.size, 1, none⟩ = some x1 ∧ X'.cell? ⟨w.heap.size, 2, none⟩ = some x2 ∧ X'.cell? ⟨w.heap.size, 3, none⟩ = some x3 ∧ X'.cell? ⟨w.heap.size, 4, none⟩ = some x4 ∧ X'.cell? ⟨w.heap.size, 5, none⟩ = some x5 ∧ X'.cell? ⟨w.heap.size, 6, none⟩ = some p) := fun X' h => (row7 ((h.block _ (lt_of_heap hg0)).trans hg0)).1
 have HB : Hid (∀ X', Below W.heap.size W X' → Below w.heap.size w X') := fun X' h => hb0.trans (h.mono hb0.size)
 obtain ⟨m0, m1, m2, m3, m4, m5, m6⟩ := FC.out W (Below.refl _ _)
 have hB0 : Below W.heap.size W W.drew := (Below.refl _ _).drew
 clear hb0 hg0
 go_region_held3 (fun X' => X'.cell? ⟨w.heap.size, 0, none⟩ = some x0 ∧ X'.cell? ⟨w.heap.size, 1, none⟩ = some x1 ∧ X'.cell? ⟨w.heap.size, 2, none⟩ = some x2 ∧ X'.cell? ⟨w.heap.size, 3, none⟩ = some x3 ∧ X'.cell? ⟨w.heap.size, 4, none⟩ = some x4 ∧ X'.cell? ⟨w.heap.size, 5, none⟩ = some x5 ∧ X'.cell? ⟨w.heap.size, 6, none⟩ = some p) (first | exact FC.out _ ‹Below W.heap.size W _› | go_keep)
  (first
    | (go_at_call 14; refine (CN.out _).mono ?_; rintro e u1 ⟨rfl, hb1⟩; have hB1 := chain2 ‹Below W.heap.size W _› hb1 (Nat.le_refl _); clear hb1)
    | (go_at_call 12; refine (CE.out _ (HB.out _ ‹Below W.heap.size W _›)).mono ?_; rintro e u2 ⟨rfl, hb2⟩; have hB2 := chain2 ‹Below W.heap.size W _› hb2 (Nat.le_refl _); clear hb2))
 all_goals go_wp2
 all_goals go_ret
 all_goals exact ⟨rfl, HB.out _ ‹Below W.heap.size W _›⟩

namespace Sy
theorem SyV.take {w : World} {q : List Sy} {A : Option Addr} {c i : Nat} (h : SyV w q (.slice A q.length c)) (hi : i ≤ q.length) : SyV w (q.take i) (.slice A i c) := by
 obtain ⟨A', c', e, h2, h3, h4⟩ := h
 injection e with e1 e2 e3
 subst e1
 subst e3
 have hl : (q.take i).length = i := by rw [List.length_take]; omega
 refine ⟨A, c, by rw [hl], by omega, h3, fun h0 => ?_⟩
 obtain ⟨b, o, h5, h6, h7⟩ := h4 (by omega)
 refine ⟨b, o, h5, h6, fun k hk => ?_⟩
 have hk' : k < q.length := by omega
 have := h7 k hk'
 rw [List.getElem_take]
 exact this
end Sy
namespace Sy
theorem info_ofY {P : Program} {t : TypeId} {z : Value} {a b : Nat} (h : (P.info? t).map (fun i => (i.zero, i.size, i.bytes)) = some (some z, a, b)) : ∃ i, P.info? t = some i ∧ i.zero = some z ∧ i.size = a ∧ i.bytes = b := by
 generalize P.info? t = x at h ⊢
 cases x with
 | none => cases h
 | some j =>
  simp only [Option.map_some, Option.some.injEq, Prod.mk.injEq] at h
  exact ⟨j, rfl, h.1, h.2.1, h.2.2⟩
theorem infoS : ∃ i, Tryz.prog.info? 24 = some i ∧ i.zero = some (.agg #[.string ⟨#[]⟩, .string ⟨#[]⟩]) ∧ i.size = 2 ∧ i.bytes = 32 := info_ofY (P := Tryz.prog) (t := 24) (z := .agg #[.string ⟨#[]⟩, .string ⟨#[]⟩]) (a := 2) (b := 32) (by kernel_rfl)
theorem add_midY (b o j : Nat) : (⟨b, o, none⟩ : Addr).add j = ⟨b, o + j, none⟩ := by unfold Addr.add; split <;> simp_all
theorem PgV.cells {w : World} {l : List Pg} {A : Option Addr} {c : Nat} (h : PgV w l (.slice A l.length c)) : ∃ cs : List Value, cs.length = l.length * 2 ∧ (0 < l.length → ∃ ad, A = some ad ∧ ad.block < w.heap.size ∧ ∀ j v, cs[j]? = some v → w.cell? (Addr.add ad j) = some v) ∧ (∀ v ∈ cs, v.oneCell' = true) ∧
 (∀ i (hi : i < l.length), cs[i * 2]? = some (.string l[i].1) ∧ ∃ u, cs[i * 2 + 1]? = some u ∧ SyV w l[i].2 u) := by
 obtain ⟨A', c', e, h2, h3, h4⟩ := h
 injection e with e1 e2 e3
 subst e1
 by_cases h0 : 0 < l.length
 · obtain ⟨b, o, rfl, hb, hc⟩ := h4 h0
   have hcell : ∀ j, j < l.length * 2 → ∃ v, w.cell? ⟨b, o + j, none⟩ = some v ∧ v.oneCell' = true := fun j hj => by
    obtain ⟨k1, u, k2, k3⟩ := hc (j / 2) (by omega)
    rcases Nat.mod_two_eq_zero_or_one j with hm | hm
    · rw [show o + j / 2 * 2 = o + j from by omega] at k1
      exact ⟨_, k1, rfl⟩
    · rw [show o + j / 2 * 2 + 1 = o + j from by omega] at k2
      obtain ⟨_, _, rfl, _⟩ := k3
      exact ⟨_, k2, rfl⟩
   refine ⟨(List.range (l.length * 2)).map fun j => (w.cell? ⟨b, o + j, none⟩).getD undef, by simp, fun _ => ⟨⟨b, o, none⟩, rfl, hb, fun j v hj => ?_⟩, fun v hv => ?_, fun i hi => ?_⟩
   · rw [List.getElem?_map] at hj
     have hjl : j < l.length * 2 := by
      rcases Nat.lt_or_ge j (l.length * 2) with h | h
      · exact h
      · rw [List.getElem?_eq_none (by simpa using h)] at hj; cases hj
     rw [List.getElem?_range hjl] at hj
     obtain ⟨x, hx, _⟩ := hcell j hjl
     simp only [Option.map_some, hx, Option.getD_some, Option.some.injEq] at hj
     subst hj
     rw [add_midY]
     exact hx
   · obtain ⟨j, hj, rfl⟩ := List.mem_map.1 hv
     obtain ⟨x, hx, h1⟩ := hcell j (List.mem_range.1 hj)
     rw [hx]
     exact h1
   · obtain ⟨k1, u, k2, k3⟩ := hc i hi
     refine ⟨?_, u, ?_, k3⟩
     · rw [List.getElem?_map, List.getElem?_range (by omega)]
       simp only [Option.map_some, k1, Option.getD_some]
     · rw [List.getElem?_map, List.getElem?_range (by omega)]
       simp only [Option.map_some]
       rw [show o + (i * 2 + 1) = o + i * 2 + 1 from by omega, k2]
       rfl
 · exact ⟨[], by simp; omega, fun h => absurd h h0, fun v hv => by simp at hv, fun i hi => absurd hi (by omega)⟩
theorem SyV.cells {w : World} {l : List Sy} {A : Option Addr} {c : Nat} (h : SyV w l (.slice A l.length c)) : ∃ cs : List Value, cs.length = l.length * 2 ∧ (0 < l.length → ∃ ad, A = some ad ∧ ad.block < w.heap.size ∧ ∀ j v, cs[j]? = some v → w.cell? (Addr.add ad j) = some v) ∧ (∀ v ∈ cs, v.oneCell' = true) ∧
 (∀ i (hi : i < l.length), cs[i * 2]? = some (.string l[i].1) ∧ cs[i * 2 + 1]? = some (.string l[i].2)) := by
 obtain ⟨A', c', e, h2, h3, h4⟩ := h
 injection e with e1 e2 e3
 subst e1
 by_cases h0 : 0 < l.length
 · obtain ⟨b, o, rfl, hb, hc⟩ := h4 h0
   have hcell : ∀ j, j < l.length * 2 → ∃ v, w.cell? ⟨b, o + j, none⟩ = some v ∧ v.oneCell' = true := fun j hj => by
    obtain ⟨k1, k2⟩ := hc (j / 2) (by omega)
    rcases Nat.mod_two_eq_zero_or_one j with hm | hm
    · rw [show o + j / 2 * 2 = o + j from by omega] at k1
      exact ⟨_, k1, rfl⟩
    · rw [show o + j / 2 * 2 + 1 = o + j from by omega] at k2
      exact ⟨_, k2, rfl⟩
   refine ⟨(List.range (l.length * 2)).map fun j => (w.cell? ⟨b, o + j, none⟩).getD undef, by simp, fun _ => ⟨⟨b, o, none⟩, rfl, hb, fun j v hj => ?_⟩, fun v hv => ?_, fun i hi => ?_⟩
   · rw [List.getElem?_map] at hj
     have hjl : j < l.length * 2 := by
      rcases Nat.lt_or_ge j (l.length * 2) with h | h
      · exact h
      · rw [List.getElem?_eq_none (by simpa using h)] at hj; cases hj
     rw [List.getElem?_range hjl] at hj
     obtain ⟨x, hx, _⟩ := hcell j hjl
     simp only [Option.map_some, hx, Option.getD_some, Option.some.injEq] at hj
     subst hj
     rw [add_midY]
     exact hx
   · obtain ⟨j, hj, rfl⟩ := List.mem_map.1 hv
     obtain ⟨x, hx, h1⟩ := hcell j (List.mem_range.1 hj)
     rw [hx]
     exact h1
   · obtain ⟨k1, k2⟩ := hc i hi
     refine ⟨?_, ?_⟩
     · rw [List.getElem?_map, List.getElem?_range (by omega)]
       simp only [Option.map_some, k1, Option.getD_some]
     · rw [List.getElem?_map, List.getElem?_range (by omega)]
       simp only [Option.map_some]
       rw [show o + (i * 2 + 1) = o + i * 2 + 1 from by omega, k2]
       rfl
 · exact ⟨[], by simp; omega, fun h => absurd h h0, fun v hv => by simp at hv, fun i hi => absurd hi (by omega)⟩
end Sy
def flN : Nat → List Value
 | 0 => []
 | i + 1 => flN i ++ [.string (BA lispB), .string (nmS i)]
theorem flN_length : ∀ i, (flN i).length = i * 2
 | 0 => rfl
 | i + 1 => by rw [flN, List.length_append, flN_length i]; simp; omega
theorem flN_get : ∀ (i j : Nat), j < i → (flN i)[j * 2]? = some (.string (BA lispB)) ∧ (flN i)[j * 2 + 1]? = some (.string (nmS j))
 | 0, j, h => absurd h (by omega)
 | i + 1, j, h => by
  have hl := flN_length i
  by_cases hj : j < i
  · obtain ⟨h1, h2⟩ := flN_get i j hj
    rw [flN, List.getElem?_append_left (by omega), List.getElem?_append_left (by omega)]
    exact ⟨h1, h2⟩
  · have e : j = i := by omega
    subst e
    rw [flN, List.getElem?_append_right (by omega), List.getElem?_append_right (by omega), hl]
    refine ⟨?_, ?_⟩
    · rw [show j * 2 - j * 2 = 0 from by omega]; rfl
    · rw [show j * 2 + 1 - j * 2 = 1 from by omega]; rfl
def NmAt (w : World) (g : Nat) : Prop := g < w.heap.size ∧ ∀ i, i < 25 → w.cell? ⟨g, i * 2, none⟩ = some (.string (BA lispB)) ∧ w.cell? ⟨g, i * 2 + 1, none⟩ = some (.string (nmS i))
theorem NmAt.keep {w w' : World} {g : Nat} (h : NmAt w g) (hb : Below w.heap.size w w') : NmAt w' g :=
 ⟨Nat.lt_of_lt_of_le h.1 hb.size, fun i hi => ⟨(hb.cell (p := ⟨g, i * 2, none⟩) h.1).trans (h.2 i hi).1, (hb.cell (p := ⟨g, i * 2 + 1, none⟩) h.1).trans (h.2 i hi).2⟩⟩
def RetNm (w : World) (e : Ending) (w' : World) : Prop := ∃ g c, e = .returned (.slice (some ⟨g, 0, none⟩) 25 c) ∧ 25 ≤ c ∧ NmAt w' g ∧ Below w.heap.size w w'
structure NmW (W wr : World) (i : Nat) (v : Value) : Prop where
 own : wr.ownsRow W.heap.size 24 2 v i (flN i)
 bel : Below W.heap.size W wr
theorem NmW.start (W : World) : NmW W W 0 (.slice none 0 0) := ⟨⟨rfl, .inl ⟨rfl, rfl⟩⟩, Below.refl _ _⟩
theorem NmW.own3 {W wo w3 : World} {i : Nat} {v : Value} (h : NmW W wo i v) (hb : Below wo.heap.size wo w3) (x : Obj) : (w3.alloc x).ownsRow W.heap.size 24 2 v i (flN i) :=
 own_keep h.own fun g hg => by
  have := (own_lt h.own g hg).2
  rw [Below.heap_alloc _ _ _ (by have := hb.size; omega)]
  exact hb.block g this
theorem NmW.step {W wo w3 w4 : World} {i : Nat} {v v' : Value} (h : NmW W wo i v) (hb : Below wo.heap.size wo w3) (x : Obj)
 (h4 : w4.ownsRow W.heap.size 24 2 v' (i + 1) (flN i ++ [.string (BA lispB), .string (nmS i)])) (hg : (w3.alloc x).grownBy w4 v.ownBlock) : NmW W w4 (i + 1) v' := by
 have hown := own_lt h.own
 have hsW := h.bel.size
 have hs3 := hb.size
 have hb3 := h.bel.trans (hb.mono hsW)
 have hba := Below.alloc hb3 (by omega) x
 exact ⟨h4, hba.grown hg hba.size (fun k hk => by have := (hown k hk).1; omega)⟩
theorem NmW.done {w W wr : World} {v : Value} (h : NmW W wr 25 v) : ∃ g c, v = .slice (some ⟨g, 0, none⟩) 25 c ∧ 25 ≤ c ∧ NmAt wr g := by
 have ho := own_lt h.own
 rcases h.own.2 with ⟨_, h0⟩ | ⟨g, cap, cur, rfl, hb, hh, hn, _, hcs, hcur⟩
 · cases h0
 · refine ⟨g, cap, rfl, by omega, (ho g rfl).2, fun i hi => ?_⟩
   obtain ⟨h1, h2⟩ := flN_get 25 i hi
   rw [← hcur] at h1 h2
   have k1 : i * 2 < (25 * 2) := by omega
   have k2 : i * 2 + 1 < (25 * 2) := by omega
   rw [List.getElem?_take_of_lt k1] at h1
   rw [List.getElem?_take_of_lt k2] at h2
   rw [cell_of_row _ _ _ _ _ _ hh, cell_of_row _ _ _ _ _ _ hh]
   exact ⟨by simpa using h1, by simpa using h2⟩
set_option maxHeartbeats 8000000 in
set_option maxRecDepth 100000 in
theorem namesP (w : World) : Calls Tryz.prog 33 #[] w (RetNm w) := by
 obtain ⟨tv, htv⟩ : ∃ tv, tblV = tv := ⟨_, rfl⟩
 have CT : Hid (∀ W, Calls Tryz.prog 50 #[] W fun e w' => e = .returned tv ∧ Below W.heap.size W w') := fun W => by rw [← htv]; exact tableP W
 have HI : Hid (∀ i : Nat, i < 25 → ∀ W : World, (Instr.index 81 tv (.int .i64 (i : Int))).run Tryz.prog W = .ok (.agg #[.string (nmS i), .int .i64 (arI i), fV (vfI i), fV (gfI i)]) W) := fun i hi W => by rw [← htv]; exact tbl_row i hi W
 clear htv
 obtain ⟨i0, hi0, hz0, hz1, hz2⟩ := Sy.infoS
 have HI0 := qh9 hi0
 have HZ0 := qh9 hz0
 have HZ1 := qh9 hz1
 have HZ2 := qh9 hz2
 clear hi0 hz0 hz1 hz2
 go_enter Tryz.func33, Tryz.ntmps33
 go_wp2_with fail
 refine (CT.out _).mono ?_
 rintro e W ⟨rfl, hb⟩
 have HW := qh9 hb
 have h0 := qh9 (NmW.start W)
 clear hb CT
 go_wp2_with fail
 go_loopw [1, 5] (fun u v wr => ∃ (i : Nat) (sl : Value), sl = u ∧ i ≤ 25 ∧ v = .int .i64 (i : Int) ∧ Hid (NmW W wr i sl)) (fun _ v _ => 25 - (intOf v).toNat)
 case atStart => exact ⟨0, _, rfl, by omega, rfl, h0⟩
 case round =>
  clear h0
  obtain ⟨i, sl, rfl, hi, rfl, hE⟩ := hrel
  obtain ⟨wo, rfl⟩ : ∃ wo : World, wo = wr := ⟨_, rfl⟩
  by_cases hiL : i < 25
  · have hidx := HI.out i hiL
    have N0 := qh9 (Bk.new wo #[.string ⟨#[]⟩, .int .i64 0, .nilFunc, .nilFunc])
    have row1 := qh9 (row_one i)
    go_upto_region 5 with (first
     | ((with_reducible refine Bk.store (.tmp 3) (.tmp 7) ?_ ?_ wo.heap.size _ _ _ _ _ _ _ _ ?_ ?_ N0.out row1.out ?_); rfl; rfl; rfl; rfl))
    have hbx : Below wo.heap.size wo (World.setRow (wo.alloc (.cells #[.string ⟨#[]⟩, .int .i64 0, .nilFunc, .nilFunc] 66)) wo.heap.size #[.string (nmS i), .int .i64 (arI i), fV (vfI i), fV (gfI i)]) := below_setRowO (Below.alloc (Below.refl _ _) (Nat.le_refl _) _) (Nat.le_refl _) _
    have hbk : Bk (World.setRow (wo.alloc (.cells #[.string ⟨#[]⟩, .int .i64 0, .nilFunc, .nilFunc] 66)) wo.heap.size #[.string (nmS i), .int .i64 (arI i), fV (vfI i), fV (gfI i)]) wo.heap.size #[.string (nmS i), .int .i64 (arI i), fV (vfI i), fV (gfI i)] := N0.out.set _
    clear N0 hidx row1
    generalize World.setRow (wo.alloc (.cells #[.string ⟨#[]⟩, .int .i64 0, .nilFunc, .nilFunc] 66)) wo.heap.size #[.string (nmS i), .int .i64 (arI i), fV (vfI i), fV (gfI i)] = X at hbx hbk ⊢
    obtain ⟨z0, z1, z2, z3⟩ := Bk.c hbk
    clear hbk z1 z2 z3
    have HBX := qh9 hbx
    clear hbx
    go_wp2_with fail
    refine (lispP _ _).mono ?_
    rintro e w3 ⟨rfl, hb⟩
    have hb3 := chain2 HBX.out hb (Nat.le_refl _)
    clear z0 hb
    have own3 := qh9 (hE.out.own3 hb3 (.cells #[.string (BA lispB), .string (nmS i)] 24))
    have HSTEP : Hid (∀ v' w4, w4.ownsRow W.heap.size 24 2 v' (i + 1) (flN i ++ [.string (BA lispB), .string (nmS i)]) → (w3.alloc (.cells #[.string (BA lispB), .string (nmS i)] 24)).grownBy w4 sl.ownBlock → NmW W w4 (i + 1) v') := fun v' w4 h4 hg => hE.out.step hb3 _ h4 hg
    have HONE : Hid (∀ u ∈ [Value.string (BA lispB), .string (nmS i)], u.oneCell' = true) := fun u hu => by
     rcases List.mem_cons.1 hu with rfl | hu
     · rfl
     · rw [List.mem_singleton] at hu; subst hu; rfl
    have HNEWS : Hid (∀ j u, [Value.string (BA lispB), .string (nmS i)][j]? = some u → (w3.alloc (.cells #[.string (BA lispB), .string (nmS i)] 24)).cell? ((⟨w3.heap.size, 0, none⟩ : Addr).add j) = some u) := newsO (cs := #[.string (BA lispB), .string (nmS i)]) rfl
    have hs3 : W.heap.size ≤ (w3.alloc (.cells #[.string (BA lispB), .string (nmS i)] 24)).heap.size := by have h1 := hb3.size; have h2 := hE.out.bel.size; simp; omega
    clear hb3
    go_wp2_with (at_builtin; refine wpList_append_own_at _ rfl (.tmp 8) (.tmp 12) _ rfl W.heap.size 24 i0 _ 2 32 Tryz.underlying60 HI0.out HZ0.out HZ1.out HZ2.out rfl (by omega) sl i (flN i) rfl own3.out ⟨w3.heap.size, 0, none⟩ 1 1 [.string (BA lispB), .string (nmS i)] rfl rfl HNEWS.out HONE.out (by simp only [maxLen]; omega) (by omega) hs3 ?_; intro v4 w4 hown4 hg4 hnil4 hat4; have hst := qh9 (HSTEP.out v4 w4 hown4 hg4); clear hown4 hg4 hnil4 hat4)
    go_roundw
    case rel => exact ⟨i + 1, _, rfl, by omega, by go_num, hst⟩
    case measure => simp [intOf]; omega
  · have hiE : i = 25 := by omega
    subst hiE
    obtain ⟨g, c, rfl, hc, hn⟩ := NmW.done (w := w) hE.out
    have HN := qh9 hn
    have hbel := qh9 (chain2 HW.out hE.out.bel (Nat.le_refl _))
    clear hE hn
    go_wp2_with fail
    go_ret
    exact ⟨g, c, rfl, hc, HN.out, hbel.out⟩
def Fine (o : Ob) : Prop := o.bd 90 ∧ o.nodes ≤ 1000
theorem fine_fix : ∀ {o : Ob}, Fine o → Bd 90 o.fix
 | .num q, h => h.1
 | .str _, _ => bd00.more (by decide)
 | .sym _ _, _ => bd00.more (by decide)
 | .cons _ _, _ => bd00.more (by decide)
theorem fine_str : ∀ {o : Ob}, Fine o → o.strV.length ≤ 2000
 | .num _, _ => Nat.zero_le _
 | .str s, h => Nat.le_trans (show s.length ≤ 200 from h.1) (by decide)
 | .sym _ _, _ => Nat.zero_le _
 | .cons _ _, _ => Nat.zero_le _
theorem Fine.n3 {o : Ob} (h : Fine o) : o.nodes ≤ 3000 := Nat.le_trans h.2 (by decide)
theorem valAll : ∀ (i : Nat) (l : List Ob) (v : Value) (w : World), i < 25 → Ar w l v → l.length = arB.getD i 0 → (∀ o ∈ l, Fine o) → (i = 23 ∨ i = 24 → ∀ o ∈ l, IntO o) → Tab w → Calls Tryz.prog (vfI i) #[v] w (RetH w (primV i l))
 | 0, l, v, w, _, hv, hl, hF, hI, ht => by
  obtain ⟨x, y, z, rfl⟩ := pv3 hl
  obtain ⟨b, o, c, p, q, r, rfl, hc, hx, hy, hz⟩ := hv.three
  exact val0 x y z b o c p q r w hx hy hz hc
 | 1, l, v, w, _, hv, hl, hF, hI, ht => by
  obtain ⟨x, y, rfl⟩ := pv2 hl
  obtain ⟨b, o, c, p, q, rfl, hc, hx, hy⟩ := hv.two
  exact val1 x y b o c p q w hx hy hc (hF x (by simp)).1 (hF y (by simp)).1 (hF x (by simp)).n3
 | 2, l, v, w, _, hv, hl, hF, hI, ht => by
  obtain ⟨x, y, rfl⟩ := pv2 hl
  obtain ⟨b, o, c, p, q, rfl, hc, hx, hy⟩ := hv.two
  exact val2 x y b o c p q w hx hy hc
 | 3, l, v, w, _, hv, hl, hF, hI, ht => by
  obtain ⟨x, rfl⟩ := pv1 hl
  obtain ⟨b, o, c, p, rfl, hc, hx⟩ := hv.one
  exact val3 x b o c p w hx hc
 | 4, l, v, w, _, hv, hl, hF, hI, ht => by
  obtain ⟨x, rfl⟩ := pv1 hl
  obtain ⟨b, o, c, p, rfl, hc, hx⟩ := hv.one
  exact val4 x b o c p w hx hc
 | 5, l, v, w, _, hv, hl, hF, hI, ht => by
  obtain ⟨x, rfl⟩ := pv1 hl
  obtain ⟨b, o, c, p, rfl, hc, hx⟩ := hv.one
  exact val5 x b o c p w hx hc
 | 6, l, v, w, _, hv, hl, hF, hI, ht => by
  obtain ⟨x, rfl⟩ := pv1 hl
  obtain ⟨b, o, c, p, rfl, hc, hx⟩ := hv.one
  exact val6 x b o c p w hx hc
 | 7, l, v, w, _, hv, hl, hF, hI, ht => by
  obtain ⟨x, rfl⟩ := pv1 hl
  obtain ⟨b, o, c, p, rfl, hc, hx⟩ := hv.one
  exact val7 x b o c p w hx hc
 | 8, l, v, w, _, hv, hl, hF, hI, ht => by
  obtain ⟨x, rfl⟩ := pv1 hl
  obtain ⟨b, o, c, p, rfl, hc, hx⟩ := hv.one
  exact val8 x b o c p w hx hc
 | 9, l, v, w, _, hv, hl, hF, hI, ht => by
  obtain ⟨x, rfl⟩ := pv1 hl
  obtain ⟨b, o, c, p, rfl, hc, hx⟩ := hv.one
  exact val9 x b o c p w hx hc
 | 10, l, v, w, _, hv, hl, hF, hI, ht => by
  obtain ⟨x, y, rfl⟩ := pv2 hl
  obtain ⟨b, o, c, p, q, rfl, hc, hx, hy⟩ := hv.two
  exact val10 x y b o c p q w hx hy hc 90 (by decide) (fine_fix (hF x (by simp))) (fine_fix (hF y (by simp))) ht
 | 11, l, v, w, _, hv, hl, hF, hI, ht => by
  obtain ⟨x, y, rfl⟩ := pv2 hl
  obtain ⟨b, o, c, p, q, rfl, hc, hx, hy⟩ := hv.two
  exact val11 x y b o c p q w hx hy hc 90 (by decide) (fine_fix (hF x (by simp))) (fine_fix (hF y (by simp))) ht
 | 12, l, v, w, _, hv, hl, hF, hI, ht => by
  obtain ⟨x, rfl⟩ := pv1 hl
  obtain ⟨b, o, c, p, rfl, hc, hx⟩ := hv.one
  exact val12 x b o c p w hx hc 90 (by decide) (fine_fix (hF x (by simp))) ht
 | 13, l, v, w, _, hv, hl, hF, hI, ht => by
  obtain ⟨x, rfl⟩ := pv1 hl
  obtain ⟨b, o, c, p, rfl, hc, hx⟩ := hv.one
  exact val13 x b o c p w hx hc 90 (by decide) (fine_fix (hF x (by simp))) ht
 | 14, l, v, w, _, hv, hl, hF, hI, ht => by
  obtain ⟨x, y, rfl⟩ := pv2 hl
  obtain ⟨b, o, c, p, q, rfl, hc, hx, hy⟩ := hv.two
  exact val14 x y b o c p q w hx hy hc 90 (by decide) (fine_fix (hF x (by simp))) (fine_fix (hF y (by simp))) ht
 | 15, l, v, w, _, hv, hl, hF, hI, ht => by
  obtain ⟨x, rfl⟩ := pv1 hl
  obtain ⟨b, o, c, p, rfl, hc, hx⟩ := hv.one
  exact val15 x b o c p w hx hc 90 (by decide) (fine_fix (hF x (by simp)))
 | 16, l, v, w, _, hv, hl, hF, hI, ht => by
  obtain ⟨x, rfl⟩ := pv1 hl
  obtain ⟨b, o, c, p, rfl, hc, hx⟩ := hv.one
  exact val16 x b o c p w hx hc 90 (by decide) (fine_fix (hF x (by simp)))
 | 17, l, v, w, _, hv, hl, hF, hI, ht => by
  obtain ⟨x, rfl⟩ := pv1 hl
  obtain ⟨b, o, c, p, rfl, hc, hx⟩ := hv.one
  exact val17 x b o c p w hx hc 90 (by decide) (fine_fix (hF x (by simp)))
 | 18, l, v, w, _, hv, hl, hF, hI, ht => by
  obtain ⟨x, rfl⟩ := pv1 hl
  obtain ⟨b, o, c, p, rfl, hc, hx⟩ := hv.one
  exact val18 x b o c p w hx hc
 | 19, l, v, w, _, hv, hl, hF, hI, ht => by
  obtain ⟨x, rfl⟩ := pv1 hl
  obtain ⟨b, o, c, p, rfl, hc, hx⟩ := hv.one
  exact val19 x b o c p w hx hc
 | 20, l, v, w, _, hv, hl, hF, hI, ht => by
  obtain ⟨x, y, rfl⟩ := pv2 hl
  obtain ⟨b, o, c, p, q, rfl, hc, hx, hy⟩ := hv.two
  exact val20 x y b o c p q w hx hy hc
 | 21, l, v, w, _, hv, hl, hF, hI, ht => by
  obtain ⟨x, y, rfl⟩ := pv2 hl
  obtain ⟨b, o, c, p, q, rfl, hc, hx, hy⟩ := hv.two
  exact val21 x y b o c p q w hx hy hc (fine_str (hF x (by simp))) (fine_str (hF y (by simp)))
 | 22, l, v, w, _, hv, hl, hF, hI, ht => by
  obtain ⟨x, rfl⟩ := pv1 hl
  obtain ⟨b, o, c, p, rfl, hc, hx⟩ := hv.one
  exact val22 x b o c p w hx hc (fine_str (hF x (by simp))) ht
 | 23, l, v, w, _, hv, hl, hF, hI, ht => by
  obtain ⟨x, y, rfl⟩ := pv2 hl
  obtain ⟨b, o, c, p, q, rfl, hc, hx, hy⟩ := hv.two
  exact val23 x y b o c p q w hx hy hc (fine_str (hF x (by simp))) (hI (.inl rfl) y (by simp)) ht
 | 24, l, v, w, _, hv, hl, hF, hI, ht => by
  obtain ⟨x, rfl⟩ := pv1 hl
  obtain ⟨b, o, c, p, rfl, hc, hx⟩ := hv.one
  exact val24 x b o c p w hx hc (hI (.inr rfl) x (by simp))
 | k + 25, _, _, _, h, _, _, _, _, _ => absurd h (by omega)
theorem grdAll : ∀ (i : Nat) (l : List Ob) (v : Value) (w : World), i < 25 → Ar w l v → l.length = arB.getD i 0 → (∀ o ∈ l, Fine o) → (i = 23 ∨ i = 24 → ∀ o ∈ l, IntO o) → Tab w → Calls Tryz.prog (gfI i) #[v] w (RetB w (guardV i l))
 | 0, l, v, w, _, hv, hl, hF, hI, ht => by
  obtain ⟨x, y, z, rfl⟩ := pv3 hl
  exact anythingP v w
 | 1, l, v, w, _, hv, hl, hF, hI, ht => by
  obtain ⟨x, y, rfl⟩ := pv2 hl
  exact anythingP v w
 | 2, l, v, w, _, hv, hl, hF, hI, ht => by
  obtain ⟨x, y, rfl⟩ := pv2 hl
  exact anythingP v w
 | 3, l, v, w, _, hv, hl, hF, hI, ht => by
  obtain ⟨x, rfl⟩ := pv1 hl
  obtain ⟨b, o, c, p, rfl, hc, hx⟩ := hv.one
  exact isListP x b o c p w hx hc
 | 4, l, v, w, _, hv, hl, hF, hI, ht => by
  obtain ⟨x, rfl⟩ := pv1 hl
  obtain ⟨b, o, c, p, rfl, hc, hx⟩ := hv.one
  exact isListP x b o c p w hx hc
 | 5, l, v, w, _, hv, hl, hF, hI, ht => by
  obtain ⟨x, rfl⟩ := pv1 hl
  exact anythingP v w
 | 6, l, v, w, _, hv, hl, hF, hI, ht => by
  obtain ⟨x, rfl⟩ := pv1 hl
  exact anythingP v w
 | 7, l, v, w, _, hv, hl, hF, hI, ht => by
  obtain ⟨x, rfl⟩ := pv1 hl
  exact anythingP v w
 | 8, l, v, w, _, hv, hl, hF, hI, ht => by
  obtain ⟨x, rfl⟩ := pv1 hl
  exact anythingP v w
 | 9, l, v, w, _, hv, hl, hF, hI, ht => by
  obtain ⟨x, rfl⟩ := pv1 hl
  exact anythingP v w
 | 10, l, v, w, _, hv, hl, hF, hI, ht => by
  obtain ⟨x, y, rfl⟩ := pv2 hl
  have h := areNumbersP [x, y] _ w hv (Nat.le_of_ble_eq_true rfl)
  rw [show [x, y].all Ob.isNumB = (x.isNumB && y.isNumB) by simp] at h
  exact h
 | 11, l, v, w, _, hv, hl, hF, hI, ht => by
  obtain ⟨x, y, rfl⟩ := pv2 hl
  have h := areNumbersP [x, y] _ w hv (Nat.le_of_ble_eq_true rfl)
  rw [show [x, y].all Ob.isNumB = (x.isNumB && y.isNumB) by simp] at h
  exact h
 | 12, l, v, w, _, hv, hl, hF, hI, ht => by
  obtain ⟨x, rfl⟩ := pv1 hl
  have h := areNumbersP [x] _ w hv (Nat.le_of_ble_eq_true rfl)
  rw [show [x].all Ob.isNumB = x.isNumB by simp] at h
  exact h
 | 13, l, v, w, _, hv, hl, hF, hI, ht => by
  obtain ⟨x, rfl⟩ := pv1 hl
  obtain ⟨b, o, c, p, rfl, hc, hx⟩ := hv.one
  exact isDivisorP x b o c p w hx hc (hF x (by simp)).1 (hF x (by simp)).n3 ht
 | 14, l, v, w, _, hv, hl, hF, hI, ht => by
  obtain ⟨x, y, rfl⟩ := pv2 hl
  have h := areNumbersP [x, y] _ w hv (Nat.le_of_ble_eq_true rfl)
  rw [show [x, y].all Ob.isNumB = (x.isNumB && y.isNumB) by simp] at h
  exact h
 | 15, l, v, w, _, hv, hl, hF, hI, ht => by
  obtain ⟨x, rfl⟩ := pv1 hl
  have h := areNumbersP [x] _ w hv (Nat.le_of_ble_eq_true rfl)
  rw [show [x].all Ob.isNumB = x.isNumB by simp] at h
  exact h
 | 16, l, v, w, _, hv, hl, hF, hI, ht => by
  obtain ⟨x, rfl⟩ := pv1 hl
  have h := areNumbersP [x] _ w hv (Nat.le_of_ble_eq_true rfl)
  rw [show [x].all Ob.isNumB = x.isNumB by simp] at h
  exact h
 | 17, l, v, w, _, hv, hl, hF, hI, ht => by
  obtain ⟨x, rfl⟩ := pv1 hl
  have h := areNumbersP [x] _ w hv (Nat.le_of_ble_eq_true rfl)
  rw [show [x].all Ob.isNumB = x.isNumB by simp] at h
  exact h
 | 18, l, v, w, _, hv, hl, hF, hI, ht => by
  obtain ⟨x, rfl⟩ := pv1 hl
  have h := isSymbolP [x] _ w hv (Nat.le_of_ble_eq_true rfl)
  rw [show [x].all Ob.isSymB = x.isSymB by simp] at h
  exact h
 | 19, l, v, w, _, hv, hl, hF, hI, ht => by
  obtain ⟨x, rfl⟩ := pv1 hl
  have h := isSymbolP [x] _ w hv (Nat.le_of_ble_eq_true rfl)
  rw [show [x].all Ob.isSymB = x.isSymB by simp] at h
  exact h
 | 20, l, v, w, _, hv, hl, hF, hI, ht => by
  obtain ⟨x, y, rfl⟩ := pv2 hl
  have h := areStringsP [x, y] _ w hv (Nat.le_of_ble_eq_true rfl)
  rw [show [x, y].all Ob.isStrB = (x.isStrB && y.isStrB) by simp] at h
  exact h
 | 21, l, v, w, _, hv, hl, hF, hI, ht => by
  obtain ⟨x, y, rfl⟩ := pv2 hl
  have h := areStringsP [x, y] _ w hv (Nat.le_of_ble_eq_true rfl)
  rw [show [x, y].all Ob.isStrB = (x.isStrB && y.isStrB) by simp] at h
  exact h
 | 22, l, v, w, _, hv, hl, hF, hI, ht => by
  obtain ⟨x, rfl⟩ := pv1 hl
  have h := areStringsP [x] _ w hv (Nat.le_of_ble_eq_true rfl)
  rw [show [x].all Ob.isStrB = x.isStrB by simp] at h
  exact h
 | 23, l, v, w, _, hv, hl, hF, hI, ht => by
  obtain ⟨x, y, rfl⟩ := pv2 hl
  obtain ⟨b, o, c, p, q, rfl, hc, hx, hy⟩ := hv.two
  exact isIndexedP x y b o c p q w hx hy hc (fine_str (hF x (by simp))) (hI (.inl rfl) y (by simp))
 | 24, l, v, w, _, hv, hl, hF, hI, ht => by
  obtain ⟨x, rfl⟩ := pv1 hl
  obtain ⟨b, o, c, p, rfl, hc, hx⟩ := hv.one
  exact isByteP x b o c p w hx hc (hI (.inr rfl) x (by simp))
 | k + 25, _, _, _, h, _, _, _, _, _ => absurd h (by omega)
theorem oneAll : ∀ (i : Nat) (x : Ob) (p : Value) (w : World), i < 25 → arB.getD i 0 = 1 → Hd w x p → Fine x → (i = 23 ∨ i = 24 → IntO x) → Tab w → Calls Tryz.prog 41 #[.string (nmS i), vO x p] w (RetH w (primV i [x]))
 | 0, _, _, _, _, h, _, _, _, _ => absurd h (by decide)
 | 1, _, _, _, _, h, _, _, _, _ => absurd h (by decide)
 | 2, _, _, _, _, h, _, _, _, _ => absurd h (by decide)
 | 3, x, p, w, _, _, hx, hF, hI, ht => oneCar x p w hx ht
 | 4, x, p, w, _, _, hx, hF, hI, ht => oneCdr x p w hx ht
 | 5, x, p, w, _, _, hx, hF, hI, ht => oneConsp x p w hx ht
 | 6, x, p, w, _, _, hx, hF, hI, ht => oneSymbolp x p w hx ht
 | 7, x, p, w, _, _, hx, hF, hI, ht => oneStringp x p w hx ht
 | 8, x, p, w, _, _, hx, hF, hI, ht => oneRationalp x p w hx ht
 | 9, x, p, w, _, _, hx, hF, hI, ht => oneIntegerp x p w hx ht
 | 10, _, _, _, _, h, _, _, _, _ => absurd h (by decide)
 | 11, _, _, _, _, h, _, _, _, _ => absurd h (by decide)
 | 12, x, p, w, _, _, hx, hF, hI, ht => oneNeg x p w hx ht 90 (by decide) (fine_fix hF)
 | 13, x, p, w, _, _, hx, hF, hI, ht => oneInv x p w hx ht 90 (by decide) (fine_fix hF)
 | 14, _, _, _, _, h, _, _, _, _ => absurd h (by decide)
 | 15, x, p, w, _, _, hx, hF, hI, ht => oneNumerator x p w hx ht 90 (by decide) (fine_fix hF)
 | 16, x, p, w, _, _, hx, hF, hI, ht => oneDenominator x p w hx ht 90 (by decide) (fine_fix hF)
 | 17, x, p, w, _, _, hx, hF, hI, ht => oneFloor x p w hx ht 90 (by decide) (fine_fix hF)
 | 18, x, p, w, _, _, hx, hF, hI, ht => oneSymName x p w hx ht
 | 19, x, p, w, _, _, hx, hF, hI, ht => oneSymPack x p w hx ht
 | 20, _, _, _, _, h, _, _, _, _ => absurd h (by decide)
 | 21, _, _, _, _, h, _, _, _, _ => absurd h (by decide)
 | 22, x, p, w, _, _, hx, hF, hI, ht => oneStrLen x p w hx ht (fine_str hF)
 | 23, _, _, _, _, h, _, _, _, _ => absurd h (by decide)
 | 24, x, p, w, _, _, hx, hF, hI, ht => oneByte x p w hx ht (hI (.inr rfl))
 | k + 25, _, _, _, h, _, _, _, _, _ => absurd h (by omega)
theorem twoAll : ∀ (i : Nat) (x y : Ob) (p q : Value) (w : World), i < 25 → arB.getD i 0 = 2 → Hd w x p → Hd w y q → Fine x → Fine y → (i = 23 ∨ i = 24 → IntO y) → Tab w → Calls Tryz.prog 42 #[.string (nmS i), vO x p, vO y q] w (RetH w (primV i [x, y]))
 | 0, _, _, _, _, _, _, h, _, _, _, _, _, _ => absurd h (by decide)
 | 1, x, y, p, q, w, _, _, hx, hy, hF, hG, hI, ht => twoEqual x y p q w hx hy ht
 | 2, x, y, p, q, w, _, _, hx, hy, hF, hG, hI, ht => twoCons x y p q w hx hy ht
 | 3, _, _, _, _, _, _, h, _, _, _, _, _, _ => absurd h (by decide)
 | 4, _, _, _, _, _, _, h, _, _, _, _, _, _ => absurd h (by decide)
 | 5, _, _, _, _, _, _, h, _, _, _, _, _, _ => absurd h (by decide)
 | 6, _, _, _, _, _, _, h, _, _, _, _, _, _ => absurd h (by decide)
 | 7, _, _, _, _, _, _, h, _, _, _, _, _, _ => absurd h (by decide)
 | 8, _, _, _, _, _, _, h, _, _, _, _, _, _ => absurd h (by decide)
 | 9, _, _, _, _, _, _, h, _, _, _, _, _, _ => absurd h (by decide)
 | 10, x, y, p, q, w, _, _, hx, hy, hF, hG, hI, ht => twoSum x y p q w hx hy ht 90 (by decide) (fine_fix hF) (fine_fix hG)
 | 11, x, y, p, q, w, _, _, hx, hy, hF, hG, hI, ht => twoProduct x y p q w hx hy ht 90 (by decide) (fine_fix hF) (fine_fix hG)
 | 12, _, _, _, _, _, _, h, _, _, _, _, _, _ => absurd h (by decide)
 | 13, _, _, _, _, _, _, h, _, _, _, _, _, _ => absurd h (by decide)
 | 14, x, y, p, q, w, _, _, hx, hy, hF, hG, hI, ht => twoLess x y p q w hx hy ht 90 (by decide) (fine_fix hF) (fine_fix hG)
 | 15, _, _, _, _, _, _, h, _, _, _, _, _, _ => absurd h (by decide)
 | 16, _, _, _, _, _, _, h, _, _, _, _, _, _ => absurd h (by decide)
 | 17, _, _, _, _, _, _, h, _, _, _, _, _, _ => absurd h (by decide)
 | 18, _, _, _, _, _, _, h, _, _, _, _, _, _ => absurd h (by decide)
 | 19, _, _, _, _, _, _, h, _, _, _, _, _, _ => absurd h (by decide)
 | 20, x, y, p, q, w, _, _, hx, hy, hF, hG, hI, ht => twoIntern x y p q w hx hy
 | 21, x, y, p, q, w, _, _, hx, hy, hF, hG, hI, ht => twoAppend x y p q w hx hy (fine_str hF) (fine_str hG)
 | 22, _, _, _, _, _, _, h, _, _, _, _, _, _ => absurd h (by decide)
 | 23, x, y, p, q, w, _, _, hx, hy, hF, hG, hI, ht => twoByte x y p q w hx hy ht (fine_str hF) (hI (.inl rfl))
 | 24, _, _, _, _, _, _, h, _, _, _, _, _, _ => absurd h (by decide)
 | k + 25, _, _, _, _, _, h, _, _, _, _, _, _, _ => absurd h (by omega)
theorem applyPall (fp fn : ByteArray) (l : List Ob) (v : Value) (w : World) (hv : Ar w l v) (ok : Bool) (ht : Tab w) (hF : ∀ o ∈ l, Fine o) (hI : ∀ i, fndP fp fn = some i → i = 23 ∨ i = 24 → ∀ o ∈ l, IntO o)
 (HO : ∀ i, fndP fp fn = some i → l.length = arB.getD i 0 → ∀ W q, Hd W (primV i l) q → Tab W → Calls Tryz.prog 38 #[vO (primV i l) q] W (RetB W ok)) :
 Calls Tryz.prog 17 #[.agg #[.string fp, .string fn], v] w (RetE w (appV ok (fndP fp fn) l)) :=
 applyP fp fn l v w hv ok ht (fun i h hl W hb => valAll i l v W (fndP_spec h).2.1 (hv.below hb) hl hF (hI i h) (ht.below hb)) HO
theorem guardPall (fp fn : ByteArray) (l : List Ob) (v : Value) (w : World) (hv : Ar w l v) (ht : Tab w) (hF : ∀ o ∈ l, Fine o) (hI : ∀ i, fndP fp fn = some i → i = 23 ∨ i = 24 → ∀ o ∈ l, IntO o) :
 Calls Tryz.prog 32 #[.agg #[.string fp, .string fn], v] w (RetB w (grdV (fndP fp fn) l)) :=
 guardP fp fn l v w hv (fun i h hl W hb => grdAll i l v W (fndP_spec h).2.1 (hv.below hb) hl hF (hI i h) (ht.below hb))
theorem arity_cases : ∀ i, i < 25 → (arB.getD i 0 = 3 ∧ i = 0) ∨ arB.getD i 0 = 2 ∨ arB.getD i 0 = 1 := by decide
theorem applyRall (fp fn : ByteArray) (l : List Ob) (v : Value) (w : World) (hv : Ar w l v) (ok : Bool) (ht : Tab w) (hF : ∀ o ∈ l, Fine o) (hI : ∀ i, fndP fp fn = some i → i = 23 ∨ i = 24 → ∀ o ∈ l, IntO o)
 (HO : ∀ i, fndP fp fn = some i → l.length = arB.getD i 0 → ∀ W q, Hd W (primV i l) q → Tab W → Calls Tryz.prog 11 #[vO (primV i l) q] W (RetB W ok)) :
 Calls Tryz.prog 22 #[.agg #[.string fp, .string fn], v] w (RetE w (appV ok (fndP fp fn) l)) := by
 have CF := fun W => arityR fp fn W
 have HS := fun i (h : fndP fp fn = some i) => fndP_spec h
 generalize fndP fp fn = R at CF HS HO hI ⊢
 cases R with
 | none => exact applyR7 fp fn v w CF
 | some i =>
  obtain ⟨_, hi, hn⟩ := HS i rfl
  have hfn : nmS i = fn := by show BA _ = fn; rw [hn, BA_LA]
  replace CF : ∀ W, Calls Tryz.prog 24 #[.agg #[.string fp, .string fn]] W (RetIB W (arI i) true) := CF
  replace HO := HO i rfl
  replace hI := hI i rfl
  by_cases hl : l.length = arB.getD i 0
  · replace HO := HO hl
    have e : appV ok (some i) l = if ok then (some (primV i l), 0) else (none, 2) := if_pos hl
    rw [e]
    clear e
    rcases arity_cases i hi with ⟨ha, rfl⟩ | ha | ha
    · obtain ⟨x, y, z, rfl⟩ := pv3 (hl.trans ha)
      obtain ⟨b, o, c, p, q, r, rfl, hc, hx, hy, hz⟩ := hv.three
      have CN : ∀ W s, Hd W x s → Calls Tryz.prog 29 #[vO x s] W (RetB W (decide (x = .nil))) := fun W s hs => isNilR x s W (Has W) (In.has W) hs
      have ep : primV 0 [x, y, z] = if x = .nil then z else y := rfl
      rw [ep] at HO ⊢
      by_cases hx0 : x = .nil
      · rw [if_pos hx0] at HO ⊢
        rw [decide_eq_true hx0] at CN
        cases ok with
        | false => exact applyR3FT fp fn x y z p q r b o c w CF hx hy hz hc ht CN HO
        | true => exact applyR3TT fp fn x y z p q r b o c w CF hx hy hz hc ht CN HO
      · rw [if_neg hx0] at HO ⊢
        rw [decide_eq_false hx0] at CN
        cases ok with
        | false => exact applyR3FF fp fn x y z p q r b o c w CF hx hy hz hc ht CN HO
        | true => exact applyR3TF fp fn x y z p q r b o c w CF hx hy hz hc ht CN HO
    · obtain ⟨x, y, rfl⟩ := pv2 (hl.trans ha)
      obtain ⟨b, o, c, p, q, rfl, hc, hx, hy⟩ := hv.two
      have ea : arI i = 2 := by unfold arI; rw [ha]; rfl
      rw [ea] at CF
      have CC : ∀ W s t, Below w.heap.size w W → Hd W x s → Hd W y t → Calls Tryz.prog 42 #[.string fn, vO x s, vO y t] W (RetH W (primV i [x, y])) := fun W s t hb h1 h2 => by
       rw [← hfn]; exact twoAll i x y s t W hi ha h1 h2 (hF x (by simp)) (hF y (by simp)) (fun h => hI h y (by simp)) (ht.below hb)
      cases ok with
      | false => exact applyR2F fp fn x y p q b o c w _ CF hx hy hc ht CC HO
      | true => exact applyR2T fp fn x y p q b o c w _ CF hx hy hc ht CC HO
    · obtain ⟨x, rfl⟩ := pv1 (hl.trans ha)
      obtain ⟨b, o, c, p, rfl, hc, hx⟩ := hv.one
      have ea : arI i = 1 := by unfold arI; rw [ha]; rfl
      rw [ea] at CF
      have CC : ∀ W s, Below w.heap.size w W → Hd W x s → Calls Tryz.prog 41 #[.string fn, vO x s] W (RetH W (primV i [x])) := fun W s hb h1 => by
       rw [← hfn]; exact oneAll i x s W hi ha h1 (hF x (by simp)) (fun h => hI h x (by simp)) (ht.below hb)
      cases ok with
      | false => exact applyR1F fp fn x p b o c w _ CF hx hc ht CC HO
      | true => exact applyR1T fp fn x p b o c w _ CF hx hc ht CC HO
  · have e : appV ok (some i) l = (none, 5) := if_neg hl
    rw [e]
    obtain ⟨A, c, rfl, _, _⟩ := hv
    refine applyR5 fp fn A l.length c (arI i) w CF ?_
    rw [bne_iff_ne]
    unfold arI
    intro h
    exact hl (by exact_mod_cast h)
theorem fnd_at : ∀ (i : Nat), i < 25 → fndP (BA lispB) (nmS i) = some i
 | 0, _ => by kernel_rfl
 | 1, _ => by kernel_rfl
 | 2, _ => by kernel_rfl
 | 3, _ => by kernel_rfl
 | 4, _ => by kernel_rfl
 | 5, _ => by kernel_rfl
 | 6, _ => by kernel_rfl
 | 7, _ => by kernel_rfl
 | 8, _ => by kernel_rfl
 | 9, _ => by kernel_rfl
 | 10, _ => by kernel_rfl
 | 11, _ => by kernel_rfl
 | 12, _ => by kernel_rfl
 | 13, _ => by kernel_rfl
 | 14, _ => by kernel_rfl
 | 15, _ => by kernel_rfl
 | 16, _ => by kernel_rfl
 | 17, _ => by kernel_rfl
 | 18, _ => by kernel_rfl
 | 19, _ => by kernel_rfl
 | 20, _ => by kernel_rfl
 | 21, _ => by kernel_rfl
 | 22, _ => by kernel_rfl
 | 23, _ => by kernel_rfl
 | 24, _ => by kernel_rfl
 | k + 25, h => absurd h (by omega)
theorem plain_new (w : World) (cs : Array Value) (t : TypeId) : Plain (w.alloc (.cells cs t)) w.heap.size := ⟨cs, t, heap_alloc_new w _⟩
theorem ar_new1 {w : World} {x : Ob} {p : Value} (hx : Hd w x p) : Ar (w.alloc (.cells (cellsO x p).toArray 27)) [x] (.slice (some ⟨w.heap.size, 0, none⟩) 1 1) := by
 have hb : Below w.heap.size w (w.alloc (.cells (cellsO x p).toArray 27)) := Below.alloc (Below.refl _ _) (Nat.le_refl _) _
 refine ar1 (o := 0) ⟨⟨by show _ < _; simp, plain_new w _ _⟩, fun j u hj => ?_, hx.below hb⟩ (Nat.le_refl _)
 rw [Nat.zero_add, cell_of_row _ _ _ _ _ _ (heap_alloc_new w _)]
 simpa using hj
theorem ar_new2 {w : World} {x y : Ob} {p q : Value} (hx : Hd w x p) (hy : Hd w y q) : Ar (w.alloc (.cells (cellsO x p ++ cellsO y q).toArray 27)) [x, y] (.slice (some ⟨w.heap.size, 0, none⟩) 2 2) := by
 have hb : Below w.heap.size w (w.alloc (.cells (cellsO x p ++ cellsO y q).toArray 27)) := Below.alloc (Below.refl _ _) (Nat.le_refl _) _
 have hl : (cellsO x p).length = 7 := cellsO_length _ _
 refine ar2 (o := 0) ⟨⟨by show _ < _; simp, plain_new w _ _⟩, fun j u hj => ?_, hx.below hb⟩ ⟨⟨by show _ < _; simp, plain_new w _ _⟩, fun j u hj => ?_, hy.below hb⟩ (Nat.le_refl _)
 · have hj7 : j < 7 := by
    rcases Nat.lt_or_ge j 7 with h | h
    · exact h
    · rw [List.getElem?_eq_none (by omega)] at hj; cases hj
   rw [Nat.zero_add, cell_of_row _ _ _ _ _ _ (heap_alloc_new w _)]
   show (cellsO x p ++ cellsO y q).toArray[j]? = some u
   rw [List.getElem?_toArray, List.getElem?_append_left (by omega)]
   exact hj
 · rw [Nat.zero_add, cell_of_row _ _ _ _ _ _ (heap_alloc_new w _)]
   show (cellsO x p ++ cellsO y q).toArray[7 + j]? = some u
   rw [List.getElem?_toArray, List.getElem?_append_right (by omega), hl, show 7 + j - 7 = j from by omega]
   exact hj
theorem validGP (o : Ob) (q : Value) (w : World) (hg : Good o) (h : Hd w o q) : Calls Tryz.prog 38 #[vO o q] w (RetB w true) := by
 rcases hg with ⟨h1, h2⟩ | ⟨p, n, rfl, hs⟩
 · exact validP o q w (Has w) h1 h2 (In.has w) h
 · obtain rfl : q = .slice none 0 0 := h.flat rfl
   have hv := Sy.validOY (BA p) (BA n) w
   have hs' : (Sy.pkgOk (BA p) && Sy.nameOk (BA n)) = true := hs
   rw [hs'] at hv
   exact hv
def shB (s : ByteArray) : Bool := decide (((body (LA s)).length : Int) ≤ 100)
def okN (q : Rat) : Bool := shB (nt q) && shB (dt q)
def okT (s : List UInt8) : Bool := decide (((BA s).size : Int) ≤ 200)
set_option maxHeartbeats 1000000 in
theorem isShortB (x : Int) (h : (BA (text x)).size ≤ 400000000) (w : World) : Calls Tryz.prog 148 #[.string (BA (text x))] w fun e w' => e = .returned (.bool (shB (BA (text x)))) ∧ w = w' := by
 have hv : valid (LA (BA (text x))) = true := by rw [LA_BA]; exact valid_text x
 have V : Hid (∀ w, Calls Tryz.prog 177 #[.string (BA (text x))] w fun e w' => e = .returned (.bool true) ∧ w = w') := fun w => by
  have := valid_any (BA (text x)) w (by unfold maxLen; omega)
  rw [hv] at this
  exact this
 have D : Hid (∀ w, Calls Tryz.prog 178 #[.string (BA (text x))] w fun e w' => e = .returned (.int .i64 ((body (LA (BA (text x)))).length : Nat)) ∧ w = w') := fun w => digits_any _ w (by omega)
 unfold shB
 clear h hv
 generalize BA (text x) = s at V D ⊢
 generalize (body (LA s)).length = n at D ⊢
 go_enter Tryz.func148, Tryz.ntmps148
 go_wp2_with fail
 refine (V.out _).mono ?_
 rintro e w' ⟨rfl, rfl⟩
 go_wp2_with fail
 refine (D.out _).mono ?_
 rintro e w' ⟨rfl, rfl⟩
 go_wp2
 go_ret
 exact ⟨rfl, rfl⟩
set_option maxHeartbeats 1000000 in
theorem isFracB (q : Rat) (h : Bd 900 q) (w : World) : Calls Tryz.prog 110 #[.string (nt q), .string (dt q)] w (RetB w (okN q)) := by
 have s1 := bd_nt h
 have s2 := bd_dt h
 have C1 : Hid (∀ w, Calls Tryz.prog 148 #[.string (nt q)] w fun e w' => e = .returned (.bool (shB (nt q))) ∧ w = w') := fun w => isShortB q.num (by have : (nt q).size ≤ 902 := s1; unfold nt at this; omega) w
 have C2 : Hid (∀ w, Calls Tryz.prog 148 #[.string (dt q)] w fun e w' => e = .returned (.bool (shB (dt q))) ∧ w = w') := fun w => isShortB (q.den : Int) (by have : (dt q).size ≤ 902 := s2; unfold dt at this; omega) w
 have C3 : Hid (∀ w, Calls Tryz.prog 149 #[.string (dt q), .string ⟨#[48]⟩] w fun e w' => e = .returned (.int .i64 1) ∧ w = w') := fun w => by
  have h3 := compare_any (dt q) ⟨#[48]⟩ w (by omega) (by decide)
  rw [val_dt, val_zero1] at h3
  have : ordI (q.den : Int) 0 = 1 := by
   have := q.den_pos
   unfold ordI
   rw [if_neg (by omega), if_pos (by omega)]
  rw [this] at h3
  exact h3
 have C4 : Hid (∀ w, Calls Tryz.prog 150 #[.string (nt q), .string (dt q)] w fun e w' => e = .returned (.string ⟨#[49]⟩) ∧ Below w.heap.size w w') := fun w => by
  have h4 := gcd_any (nt q) (dt q) w (by omega) (by omega)
  rw [← val_natAbs, ← val_natAbs, val_nt, val_dt, Int.natAbs_natCast, q.reduced.gcd_eq_one] at h4
  exact h4
 unfold okN
 clear h s1 s2
 generalize shB (nt q) = b1 at *
 generalize shB (dt q) = b2 at *
 generalize nt q = nq at *
 generalize dt q = dq at *
 cases b1 with
 | false =>
  go_enter Tryz.func110, Tryz.ntmps110
  go_wp2_with fail
  refine (C1.out _).mono ?_
  rintro e w' ⟨rfl, rfl⟩
  go_wp2
  go_ret
  exact ⟨rfl, Below.refl _ _⟩
 | true =>
  cases b2 with
  | false =>
   go_enter Tryz.func110, Tryz.ntmps110
   go_wp2_with fail
   refine (C1.out _).mono ?_
   rintro e w' ⟨rfl, rfl⟩
   go_wp2_with fail
   refine (C2.out _).mono ?_
   rintro e w' ⟨rfl, rfl⟩
   go_wp2
   go_ret
   exact ⟨rfl, Below.refl _ _⟩
  | true =>
   by_cases hd : (dq.toList == [49]) = true
   · go_enter Tryz.func110, Tryz.ntmps110
     go_wp2_with fail
     refine (C1.out _).mono ?_
     rintro e w' ⟨rfl, rfl⟩
     go_wp2_with fail
     refine (C2.out _).mono ?_
     rintro e w' ⟨rfl, rfl⟩
     go_wp2
     go_ret
     exact ⟨rfl, Below.refl _ _⟩
   · have hn : (dq.toList == [49]) = false := by
      cases hx : (dq.toList == [49])
      · rfl
      · exact absurd hx hd
     clear hd
     go_enter Tryz.func110, Tryz.ntmps110
     go_wp2_with fail
     refine (C1.out _).mono ?_
     rintro e w' ⟨rfl, rfl⟩
     go_wp2_with fail
     refine (C2.out _).mono ?_
     rintro e w' ⟨rfl, rfl⟩
     go_wp2_with fail
     refine (C3.out _).mono ?_
     rintro e w' ⟨rfl, rfl⟩
     go_wp2_with fail
     refine (C4.out _).mono ?_
     rintro e w' ⟨rfl, hb⟩
     have HB := qh9 hb
     clear hb
     go_wp2
     go_ret
     exact ⟨rfl, HB.out⟩
set_option maxHeartbeats 4000000 in
set_option maxRecDepth 100000 in
theorem wellNum (q : Rat) (b k : Nat) (p : Value) (w : World) (S : Nat → Prop) (hwf : Bd 900 q) (hS : In S w) (h : At w S (.num q) b k p) :
 Calls Tryz.prog 56 #[.pointer (some ⟨b, k, none⟩)] w (RetB w (okN q)) := by
 obtain ⟨x0, x1, x2, x3, x4, x5, e, l0, l1, l2, l3, l4, l5, l6⟩ := h.cells
 obtain rfl := h.2.2.flat rfl
 have hlt : b < w.heap.size := hS b h.1.1
 rw [cellsO_f] at e
 simp only [List.cons.injEq, and_true] at e
 obtain ⟨rfl, rfl, rfl, rfl, rfl, rfl⟩ := e
 have hF : Hid (∀ w, Calls Tryz.prog 110 #[.string (nt q), .string (dt q)] w (RetB w (okN q))) := fun w => isFracB q hwf w
 have HO : Hid (∀ wd, Below w.heap.size w wd → Calls Tryz.prog 109 #[.pointer (some ⟨b, k, none⟩), .agg #[.int .i64 0, .string (nt q), .string (dt q), .string ⟨#[]⟩, .string ⟨#[]⟩, .string ⟨#[]⟩, .slice none 0 0]] wd (RetB wd true)) := fun wd hb =>
  hasOnlyP b k wd 1 (nt q) (dt q) ⟨#[]⟩ ⟨#[]⟩ ⟨#[]⟩ none 0 0 ((hb.cell (p := ⟨b, k, none⟩) hlt).trans l0) ((hb.cell (p := ⟨b, k + 1, none⟩) hlt).trans l1) ((hb.cell (p := ⟨b, k + 2, none⟩) hlt).trans l2) ((hb.cell (p := ⟨b, k + 3, none⟩) hlt).trans l3) ((hb.cell (p := ⟨b, k + 4, none⟩) hlt).trans l4) ((hb.cell (p := ⟨b, k + 5, none⟩) hlt).trans l5) ((hb.cell (p := ⟨b, k + 6, none⟩) hlt).trans l6)
 have HC : Hid (∀ wd, Below w.heap.size w wd → wd.cell? ⟨b, k + 1, none⟩ = some (.string (nt q)) ∧ wd.cell? ⟨b, k + 2, none⟩ = some (.string (dt q))) := fun wd hb => ⟨(hb.cell (p := ⟨b, k + 1, none⟩) hlt).trans l1, (hb.cell (p := ⟨b, k + 2, none⟩) hlt).trans l2⟩
 have hB0 : Below w.heap.size w w.drew := (Below.refl _ _).drew
 change w.cell? ⟨b, k, none⟩ = some (.int .i64 1) at l0
 change w.cell? ⟨b, k + 1, none⟩ = some (.string (nt q)) at l1
 change w.cell? ⟨b, k + 2, none⟩ = some (.string (dt q)) at l2
 clear l3 l4 l5 l6 h hwf
 generalize nt q = nq at *
 generalize dt q = dq at *
 generalize okN q = bq at *
 go_enter Tryz.func56, Tryz.ntmps56
 go_wp2_with fail
 go_region_held3 (fun W' => W'.cell? ⟨b, k + 1, none⟩ = some (.string nq) ∧ W'.cell? ⟨b, k + 2, none⟩ = some (.string dq)) (go_keep)
  (first
    | (go_at_call 109; refine (HO.out _ ‹Below w.heap.size w _›).mono ?_; rintro e w3 ⟨rfl, hb3⟩; have hB3 := chain2 ‹Below w.heap.size w _› hb3 (Nat.le_refl _); obtain ⟨l1, l2⟩ := HC.out _ hB3; clear hb3)
    | (go_at_call 110; refine (hF.out _).mono ?_; rintro e w4 ⟨rfl, hb4⟩; have hB4 := chain2 ‹Below w.heap.size w _› hb4 (Nat.le_refl _); obtain ⟨l1, l2⟩ := HC.out _ hB4; clear hb4))
 all_goals go_wp2
 all_goals go_ret
 all_goals exact ⟨rfl, ‹Below w.heap.size w _›⟩
set_option maxHeartbeats 4000000 in
set_option maxRecDepth 100000 in
theorem wellStr (s : List UInt8) (hmx : s.length ≤ 100000) (b k : Nat) (p : Value) (w : World) (S : Nat → Prop) (hS : In S w) (h : At w S (.str s) b k p) :
 Calls Tryz.prog 56 #[.pointer (some ⟨b, k, none⟩)] w (RetB w (okT s)) := by
 obtain ⟨x0, x1, x2, x3, x4, x5, e, l0, l1, l2, l3, l4, l5, l6⟩ := h.cells
 obtain rfl := h.2.2.flat rfl
 have hlt : b < w.heap.size := hS b h.1.1
 rw [cellsO_f] at e
 simp only [List.cons.injEq, and_true] at e
 obtain ⟨rfl, rfl, rfl, rfl, rfl, rfl⟩ := e
 change w.cell? ⟨b, k, none⟩ = some (.int .i64 3) at l0
 change w.cell? ⟨b, k + 5, none⟩ = some (.string (BA s)) at l5
 have HO := qh9 (hasOnlyP b k w 3 ⟨#[]⟩ ⟨#[]⟩ ⟨#[]⟩ ⟨#[]⟩ (BA s) none 0 0 l0 l1 l2 l3 l4 l5 l6)
 have HC : Hid (∀ wd, Below w.heap.size w wd → wd.cell? ⟨b, k + 5, none⟩ = some (.string (BA s))) := fun wd hb => (hb.cell (p := ⟨b, k + 5, none⟩) hlt).trans l5
 unfold okT
 clear l1 l2 l3 l4 l6 h hmx
 generalize BA s = t at *
 go_enter Tryz.func56, Tryz.ntmps56
 go_wp2_with fail
 refine HO.out.mono ?_
 rintro e w1 ⟨rfl, hb1⟩
 have j5 := HC.out _ hb1
 have HB := qh9 hb1
 clear hb1 l5 l0
 go_wp2
 go_ret
 exact ⟨rfl, HB.out⟩
set_option maxHeartbeats 1000000 in
set_option maxRecDepth 100000 in
theorem validPB (a : Ob) (r : Bool) (p : Value) (w : World) (hn : a.nodes ≤ 3000) (h : Hd w a p)
 (hV : ∀ b k W S, In S W → At W S a b k p → Calls Tryz.prog 56 #[.pointer (some ⟨b, k, none⟩)] W (RetB W r)) :
 Calls Tryz.prog 38 #[vO a p] w (RetB w r) := by
 have hS : In (Has w) w := In.has w
 obtain ⟨x0, x1, x2, x3, x4, x5, e⟩ := cells7 a p
 have hb : Below w.heap.size w (w.alloc (.cells #[x0, x1, x2, x3, x4, x5, p] 27)) := Below.alloc (Below.refl _ _) (Nat.le_refl _) _
 have hg := heap_alloc_new w (.cells #[x0, x1, x2, x3, x4, x5, p] 27)
 have hA : At (w.alloc (.cells #[x0, x1, x2, x3, x4, x5, p] 27)) (fun b => Has w b ∨ b = w.heap.size) a w.heap.size 0 p := by
  refine ⟨⟨.inr rfl, _, _, hg⟩, fun j u hj => ?_, (Pair.below h hS hb).more fun _ h => .inl h⟩
  rw [Nat.zero_add, cell_of_row _ _ _ _ _ _ hg, ← hj, e]
  simp
 have hS' : In (fun b => Has w b ∨ b = w.heap.size) (w.alloc (.cells #[x0, x1, x2, x3, x4, x5, p] 27)) := fun b hb => by
  rcases hb with hb | rfl
  · have := hS b hb; simp; omega
  · simp
 have N := nodesP a p _ (Has w) (hS.later hb.size) (Pair.below h hS hb) hn
 unfold vO at N
 rw [e] at N
 replace N := qh9 N
 have V : Hid (∀ wd, Below (w.heap.size + 1) (w.alloc (.cells #[x0, x1, x2, x3, x4, x5, p] 27)) wd → Calls Tryz.prog 56 #[.pointer (some ⟨w.heap.size, 0, none⟩)] wd (RetB wd r)) := fun wd hb' =>
  hV w.heap.size 0 wd _ (hS'.later hb'.size) (hA.below (B := w.heap.size + 1) (fun b hb => by have := hS' b hb; simpa using this) hb')
 unfold vO
 rw [e]
 have hz : (w.alloc (.cells #[x0, x1, x2, x3, x4, x5, p] 27)).heap.size = w.heap.size + 1 := by simp
 have hnn : (a.nodes : Int) ≤ 3000 := by omega
 clear e hA hS' h hS hg hV
 go_enter Tryz.func38, Tryz.ntmps38
 go_wp2_with fail
 refine N.out.mono ?_
 rintro e w1 ⟨rfl, hb1⟩
 rw [hz] at hb1
 have V1 := qh9 (V.out _ hb1)
 have HB := qh9 (hb.trans (hb1.mono (by omega)))
 clear hb1 hb V N hz
 go_wp2_with fail
 refine V1.out.mono ?_
 rintro e w2 ⟨rfl, hb2⟩
 have HB2 := qh9 (HB.out.trans (hb2.mono HB.out.size))
 clear hb2
 go_wp2
 go_ret
 exact ⟨rfl, HB2.out⟩
theorem validPN (q : Rat) (h : Bd 900 q) (p : Value) (w : World) (hp : Hd w (.num q) p) : Calls Tryz.prog 38 #[vO (.num q) p] w (RetB w (okN q)) :=
 validPB (.num q) _ p w (by show 1 ≤ 3000; decide) hp fun b k W S hS hA => wellNum q b k p W S h hS hA
theorem validPT (s : List UInt8) (h : s.length ≤ 100000) (p : Value) (w : World) (hp : Hd w (.str s) p) : Calls Tryz.prog 38 #[vO (.str s) p] w (RetB w (okT s)) :=
 validPB (.str s) _ p w (by show 1 ≤ 3000; decide) hp fun b k W S hS hA => wellStr s h b k p W S hS hA
set_option maxHeartbeats 4000000 in
set_option maxRecDepth 100000 in
theorem formedNumB (q : Rat) (w : World) (hb : Bd 900 q) : Calls Tryz.prog 35 #[vO (.num q) (.slice none 0 0)] w (RetB w (okN q)) := by
 have hp : Hd w (.num q) (.slice none 0 0) := hd_num w q
 have s1 := bd_nt hb
 have s2 := bd_dt hb
 have RD : Hid (∀ X, Calls Tryz.prog 39 #[.string (nt q), .string (dt q)] X fun e w' => e = .returned (.tuple #[.string (nt q), .string (dt q)]) ∧ Below X.heap.size X w') := fun X => by
  have h := reduceR_q (nt q) (dt q) X (by omega) (by omega)
  rw [quo_self] at h
  exact h
 have D1 : Hid (∀ X, Calls Tryz.prog 53 #[.string (nt q)] X (RetI X ((body (LA (nt q))).length : Int))) := fun X => digitsCountR (nt q) X (by omega)
 have D2 : Hid (∀ X, Calls Tryz.prog 53 #[.string (dt q)] X (RetI X ((body (LA (dt q))).length : Int))) := fun X => digitsCountR (dt q) X (by omega)
 clear s1 s2 hb
 unfold okN shB
 generalize ((body (LA (nt q))).length : Int) = x1 at D1 ⊢
 generalize ((body (LA (dt q))).length : Int) = x2 at D2 ⊢
 have ea : cellsO (.num q) (.slice none 0 0) = [.int .i64 1, .string (nt q), .string (dt q), .string ⟨#[]⟩, .string ⟨#[]⟩, .string ⟨#[]⟩, (.slice none 0 0)] := rfl
 have T := Bx1.new w #[.int .i64 1, .string (nt q), .string (dt q), .string ⟨#[]⟩, .string ⟨#[]⟩, .string ⟨#[]⟩, (.slice none 0 0)]
 rw [vO_cells ea]
 by_cases h1 : x1 ≤ 100
 all_goals (
  first
   | (rw [decide_eq_true h1]; have M1 := decide_eq_true h1)
   | (rw [decide_eq_false h1]; have M1 := decide_eq_false h1))
 · go_enter Tryz.func35, Tryz.ntmps35
   go_upto_region 1 with fail
   generalize w.alloc (.cells #[.int .i64 1, .string (nt q), .string (dt q), .string ⟨#[]⟩, .string ⟨#[]⟩, .string ⟨#[]⟩, (.slice none 0 0)] 27) = W at T ⊢
   have B0 : Hid (Bx W (w.heap.size) (cellsO (.num q) (.slice none 0 0)).toArray) := by rw [ea]; exact T.b0
   have K0 := qh9 (hp.below T.bel)
   have HW := qh9 T.bel
   try rw [← vO_cells ea]
   clear T ea hp
   obtain ⟨m0, m1, m2, m3, m4, m5, m6⟩ := Bx.c B0.out
   try unfold e0 at m1
   try unfold e0 at m2
   try unfold e0 at m3
   try unfold e0 at m4
   try unfold e0 at m5
   go_wp2_with (first | ((with_reducible refine loadB (.tmp 1) ?_ ?_ ?_ B0.out ?_); rfl; rfl; rfl) | ((with_reducible refine loadG (.tmp 1) ?_ ?_ ?_ B0.out ?_); rfl; rfl; rfl))
   with_reducible refine (RD.out _).mono ?_
   rintro e w1 ⟨rfl, hb⟩
   replace B0 := qh9 (B0.out.keep hb)
   replace K0 := qh9 (K0.out.below hb)
   replace HW := qc9 HW hb
   clear hb
   obtain ⟨m0, m1, m2, m3, m4, m5, m6⟩ := Bx.c B0.out
   try unfold e0 at m1
   try unfold e0 at m2
   try unfold e0 at m3
   try unfold e0 at m4
   try unfold e0 at m5
   go_wp2_with (first | ((with_reducible refine loadB (.tmp 1) ?_ ?_ ?_ B0.out ?_); rfl; rfl; rfl) | ((with_reducible refine loadG (.tmp 1) ?_ ?_ ?_ B0.out ?_); rfl; rfl; rfl))
   with_reducible refine (D1.out _).mono ?_
   rintro e w2 ⟨rfl, hb⟩
   replace B0 := qh9 (B0.out.keep hb)
   replace K0 := qh9 (K0.out.below hb)
   replace HW := qc9 HW hb
   clear hb
   obtain ⟨m0, m1, m2, m3, m4, m5, m6⟩ := Bx.c B0.out
   try unfold e0 at m1
   try unfold e0 at m2
   try unfold e0 at m3
   try unfold e0 at m4
   try unfold e0 at m5
   go_wp2_with (first | ((with_reducible refine loadB (.tmp 1) ?_ ?_ ?_ B0.out ?_); rfl; rfl; rfl) | ((with_reducible refine loadG (.tmp 1) ?_ ?_ ?_ B0.out ?_); rfl; rfl; rfl))
   with_reducible refine (D2.out _).mono ?_
   rintro e w3 ⟨rfl, hb⟩
   replace B0 := qh9 (B0.out.keep hb)
   replace K0 := qh9 (K0.out.below hb)
   replace HW := qc9 HW hb
   clear hb
   go_wp2_with (first | ((with_reducible refine loadB (.tmp 1) ?_ ?_ ?_ B0.out ?_); rfl; rfl; rfl) | ((with_reducible refine loadG (.tmp 1) ?_ ?_ ?_ B0.out ?_); rfl; rfl; rfl))
   go_ret
   exact ⟨by simp, HW.out⟩
 · go_enter Tryz.func35, Tryz.ntmps35
   go_upto_region 1 with fail
   generalize w.alloc (.cells #[.int .i64 1, .string (nt q), .string (dt q), .string ⟨#[]⟩, .string ⟨#[]⟩, .string ⟨#[]⟩, (.slice none 0 0)] 27) = W at T ⊢
   have B0 : Hid (Bx W (w.heap.size) (cellsO (.num q) (.slice none 0 0)).toArray) := by rw [ea]; exact T.b0
   have K0 := qh9 (hp.below T.bel)
   have HW := qh9 T.bel
   try rw [← vO_cells ea]
   clear T ea hp
   obtain ⟨m0, m1, m2, m3, m4, m5, m6⟩ := Bx.c B0.out
   try unfold e0 at m1
   try unfold e0 at m2
   try unfold e0 at m3
   try unfold e0 at m4
   try unfold e0 at m5
   go_wp2_with (first | ((with_reducible refine loadB (.tmp 1) ?_ ?_ ?_ B0.out ?_); rfl; rfl; rfl) | ((with_reducible refine loadG (.tmp 1) ?_ ?_ ?_ B0.out ?_); rfl; rfl; rfl))
   with_reducible refine (RD.out _).mono ?_
   rintro e w1 ⟨rfl, hb⟩
   replace B0 := qh9 (B0.out.keep hb)
   replace K0 := qh9 (K0.out.below hb)
   replace HW := qc9 HW hb
   clear hb
   obtain ⟨m0, m1, m2, m3, m4, m5, m6⟩ := Bx.c B0.out
   try unfold e0 at m1
   try unfold e0 at m2
   try unfold e0 at m3
   try unfold e0 at m4
   try unfold e0 at m5
   go_wp2_with (first | ((with_reducible refine loadB (.tmp 1) ?_ ?_ ?_ B0.out ?_); rfl; rfl; rfl) | ((with_reducible refine loadG (.tmp 1) ?_ ?_ ?_ B0.out ?_); rfl; rfl; rfl))
   with_reducible refine (D1.out _).mono ?_
   rintro e w2 ⟨rfl, hb⟩
   replace B0 := qh9 (B0.out.keep hb)
   replace K0 := qh9 (K0.out.below hb)
   replace HW := qc9 HW hb
   clear hb
   go_wp2_with (first | ((with_reducible refine loadB (.tmp 1) ?_ ?_ ?_ B0.out ?_); rfl; rfl; rfl) | ((with_reducible refine loadG (.tmp 1) ?_ ?_ ?_ B0.out ?_); rfl; rfl; rfl))
   go_ret
   exact ⟨by simp, HW.out⟩
set_option maxHeartbeats 4000000 in
set_option maxRecDepth 100000 in
theorem formedStrB (s : List UInt8) (w : World) : Calls Tryz.prog 35 #[vO (.str s) (.slice none 0 0)] w (RetB w (okT s)) := by
 have hp : Hd w (.str s) (.slice none 0 0) := rfl
 unfold okT
 have ea : cellsO (.str s) (.slice none 0 0) = [.int .i64 3, .string ⟨#[]⟩, .string ⟨#[]⟩, .string ⟨#[]⟩, .string ⟨#[]⟩, .string (BA s), (.slice none 0 0)] := rfl
 have T := Bx1.new w #[.int .i64 3, .string ⟨#[]⟩, .string ⟨#[]⟩, .string ⟨#[]⟩, .string ⟨#[]⟩, .string (BA s), (.slice none 0 0)]
 rw [vO_cells ea]
 by_cases h1 : ((BA s).size : Int) ≤ 200
 all_goals (
  first
   | (rw [decide_eq_true h1]; have M1 := decide_eq_true h1)
   | (rw [decide_eq_false h1]; have M1 := decide_eq_false h1))
 · go_enter Tryz.func35, Tryz.ntmps35
   go_upto_region 1 with fail
   generalize w.alloc (.cells #[.int .i64 3, .string ⟨#[]⟩, .string ⟨#[]⟩, .string ⟨#[]⟩, .string ⟨#[]⟩, .string (BA s), (.slice none 0 0)] 27) = W at T ⊢
   have B0 : Hid (Bx W (w.heap.size) (cellsO (.str s) (.slice none 0 0)).toArray) := by rw [ea]; exact T.b0
   have K0 := qh9 (hp.below T.bel)
   have HW := qh9 T.bel
   try rw [← vO_cells ea]
   clear T ea hp
   obtain ⟨m0, m1, m2, m3, m4, m5, m6⟩ := Bx.c B0.out
   try unfold e0 at m1
   try unfold e0 at m2
   try unfold e0 at m3
   try unfold e0 at m4
   try unfold e0 at m5
   go_wp2_with (first | ((with_reducible refine loadB (.tmp 1) ?_ ?_ ?_ B0.out ?_); rfl; rfl; rfl) | ((with_reducible refine loadG (.tmp 1) ?_ ?_ ?_ B0.out ?_); rfl; rfl; rfl))
   go_ret
   exact ⟨by simp, HW.out⟩
 · go_enter Tryz.func35, Tryz.ntmps35
   go_upto_region 1 with fail
   generalize w.alloc (.cells #[.int .i64 3, .string ⟨#[]⟩, .string ⟨#[]⟩, .string ⟨#[]⟩, .string ⟨#[]⟩, .string (BA s), (.slice none 0 0)] 27) = W at T ⊢
   have B0 : Hid (Bx W (w.heap.size) (cellsO (.str s) (.slice none 0 0)).toArray) := by rw [ea]; exact T.b0
   have K0 := qh9 (hp.below T.bel)
   have HW := qh9 T.bel
   try rw [← vO_cells ea]
   clear T ea hp
   obtain ⟨m0, m1, m2, m3, m4, m5, m6⟩ := Bx.c B0.out
   try unfold e0 at m1
   try unfold e0 at m2
   try unfold e0 at m3
   try unfold e0 at m4
   try unfold e0 at m5
   go_wp2_with (first | ((with_reducible refine loadB (.tmp 1) ?_ ?_ ?_ B0.out ?_); rfl; rfl; rfl) | ((with_reducible refine loadG (.tmp 1) ?_ ?_ ?_ B0.out ?_); rfl; rfl; rfl))
   go_ret
   exact ⟨by simp, HW.out⟩
set_option maxHeartbeats 4000000 in
set_option maxRecDepth 100000 in
theorem validRB (o : Ob) (r : Bool) (p : Value) (w : World) (hn : o.nodes ≤ 3000) (hp : Hd w o p) (hF : ∀ X, Hd X o p → Calls Tryz.prog 35 #[vO o p] X (RetB X r)) :
 Calls Tryz.prog 11 #[vO o p] w (RetB w r) := by
 have HN := qh9 hn
 have HB := qh9 hF
 have hn1 : (o.nodes : Int) ≤ 3000 := by omega
 clear hn hF
 obtain ⟨a0, a1, a2, a3, a4, a5, ea⟩ := cells7 (o) p
 have T := Bx1.new w #[a0, a1, a2, a3, a4, a5, p]
 rw [vO_cells ea]
 go_enter Tryz.func11, Tryz.ntmps11
 go_wp2_with fail
 generalize w.alloc (.cells #[a0, a1, a2, a3, a4, a5, p] 27) = W at T ⊢
 have B0 : Hid (Bx W (w.heap.size) (cellsO (o) p).toArray) := by rw [ea]; exact T.b0
 have K0 := qh9 (hp.below T.bel)
 have HW := qh9 T.bel
 try rw [← vO_cells ea]
 clear T ea hp
 with_reducible refine (nodesR o p _ HN.out K0.out).mono ?_
 rintro e w1 ⟨rfl, hb⟩
 replace B0 := qh9 (B0.out.keep hb)
 replace K0 := qh9 (K0.out.below hb)
 replace HW := qc9 HW hb
 clear hb
 go_wp2_with (first | ((with_reducible refine loadB (.tmp 1) ?_ ?_ ?_ B0.out ?_); rfl; rfl; rfl) | ((with_reducible refine loadG (.tmp 1) ?_ ?_ ?_ B0.out ?_); rfl; rfl; rfl))
 with_reducible refine (HB.out _ K0.out).mono ?_
 rintro e w2 ⟨rfl, hb⟩
 replace B0 := qh9 (B0.out.keep hb)
 replace K0 := qh9 (K0.out.below hb)
 replace HW := qc9 HW hb
 clear hb
 go_wp2_with (first | ((with_reducible refine loadB (.tmp 1) ?_ ?_ ?_ B0.out ?_); rfl; rfl; rfl) | ((with_reducible refine loadG (.tmp 1) ?_ ?_ ?_ B0.out ?_); rfl; rfl; rfl))
 go_ret
 exact ⟨rfl, HW.out⟩
theorem validRN (q : Rat) (h : Bd 900 q) (p : Value) (w : World) (hp : Hd w (.num q) p) : Calls Tryz.prog 11 #[vO (.num q) p] w (RetB w (okN q)) := by
 obtain rfl : p = .slice none 0 0 := hp.flat rfl
 exact validRB (.num q) _ _ w (by show 1 ≤ 3000; decide) hp fun X _ => formedNumB q X h
theorem validRT (s : List UInt8) (p : Value) (w : World) (hp : Hd w (.str s) p) : Calls Tryz.prog 11 #[vO (.str s) p] w (RetB w (okT s)) := by
 obtain rfl : p = .slice none 0 0 := hp.flat rfl
 exact validRB (.str s) _ _ w (by show 1 ≤ 3000; decide) hp fun X _ => formedStrB s X
def LAr (l : List Ob) : Lv := fun v _ _ w => Ar w l v
theorem mLAr (l : List Ob) : Mon (LAr l) := fun _ _ _ _ _ h _ hb => Ar.below h hb
def LSl (n : Nat) : Lv := fun v _ _ _ => ∃ A c, v = .slice A n c
theorem mLSl (n : Nat) : Mon (LSl n) := fun _ _ _ _ _ h _ _ => h
section
variable {Q : Exit → Act → World → Prop} {ops : Array Oper} {K : Act → World → Prop} {a : Act} {w : World} {i : Nat} {o : Oper}
theorem gw_bs1c (ho : ops[i]? = some o) (hw : Region.wanted o (yielded ops a.tmps) = true) (s : Tmp) {c0 c1 c2 c3 c4 c5 c6 : Value} (hop : o.op = Op.buildSlice 25 1 #[(0, .tmp s)]) (hx : a.tmps[s]? = some (.agg #[c0, c1, c2, c3, c4, c5, c6])) (hK : K (a.put o.dst (.slice (some ⟨w.heap.size, 0, none⟩) 1 1)) (w.alloc (.cells #[c0, c1, c2, c3, c4, c5, c6] 27))) : wpOp Tryz.prog ops Q i K a w :=
 wpOp_step ho fun K' hK' => by
  rw [if_pos hw]
  unfold Oper.wp
  simp only [execOp, hop]
  go_simp
  exact hK' _ _ hK
theorem gw_bs2c (ho : ops[i]? = some o) (hw : Region.wanted o (yielded ops a.tmps) = true) (s t : Tmp) {c0 c1 c2 c3 c4 c5 c6 d0 d1 d2 d3 d4 d5 d6 : Value} (hop : o.op = Op.buildSlice 25 2 #[(0, .tmp s), (1, .tmp t)]) (hx : a.tmps[s]? = some (.agg #[c0, c1, c2, c3, c4, c5, c6])) (hy : a.tmps[t]? = some (.agg #[d0, d1, d2, d3, d4, d5, d6])) (hK : K (a.put o.dst (.slice (some ⟨w.heap.size, 0, none⟩) 2 2)) (w.alloc (.cells #[c0, c1, c2, c3, c4, c5, c6, d0, d1, d2, d3, d4, d5, d6] 27))) : wpOp Tryz.prog ops Q i K a w :=
 wpOp_step ho fun K' hK' => by
  rw [if_pos hw]
  unfold Oper.wp
  simp only [execOp, hop]
  go_simp
  exact hK' _ _ hK
theorem gw_bs1 (ho : ops[i]? = some o) (hw : Region.wanted o (yielded ops a.tmps) = true) (s : Tmp) {x : Ob} {p : Value} (hop : o.op = Op.buildSlice 25 1 #[(0, .tmp s)]) (hx : a.tmps[s]? = some (vO x p)) (hK : K (a.put o.dst (.slice (some ⟨w.heap.size, 0, none⟩) 1 1)) (w.alloc (.cells (cellsO x p).toArray 27))) : wpOp Tryz.prog ops Q i K a w := by
 obtain ⟨a0, a1, a2, a3, a4, a5, ea⟩ := cells7 x p
 have hx' : a.tmps[s]? = some (.agg (cellsO x p).toArray) := hx
 rw [ea] at hx' hK
 exact gw_bs1c ho hw s hop hx' hK
theorem gw_bs2 (ho : ops[i]? = some o) (hw : Region.wanted o (yielded ops a.tmps) = true) (s t : Tmp) {x y : Ob} {p q : Value} (hop : o.op = Op.buildSlice 25 2 #[(0, .tmp s), (1, .tmp t)]) (hx : a.tmps[s]? = some (vO x p)) (hy : a.tmps[t]? = some (vO y q)) (hK : K (a.put o.dst (.slice (some ⟨w.heap.size, 0, none⟩) 2 2)) (w.alloc (.cells (cellsO x p ++ cellsO y q).toArray 27))) : wpOp Tryz.prog ops Q i K a w := by
 obtain ⟨a0, a1, a2, a3, a4, a5, ea⟩ := cells7 x p
 obtain ⟨b0, b1, b2, b3, b4, b5, eb⟩ := cells7 y q
 have hx' : a.tmps[s]? = some (.agg (cellsO x p).toArray) := hx
 have hy' : a.tmps[t]? = some (.agg (cellsO y q).toArray) := hy
 rw [ea] at hx' hK
 rw [eb] at hy' hK
 exact gw_bs2c ho hw s t hop hx' hy' hK
theorem gw_eqcE (ho : ops[i]? = some o) (hw : Region.wanted o (yielded ops a.tmps) = true) (s : Tmp) (n m : Int) (hop : o.op = Op.binOp BinOp.eql 37 (.tmp s) (.const (.int .i64 m)) 37) (hx : a.tmps[s]? = some (.int .i64 n)) (hK : K (a.put o.dst (.bool (n == m))) w) : wpOp Tryz.prog ops Q i K a w :=
 wpOp_step ho fun K' hK' => by
  rw [if_pos hw]
  unfold Oper.wp
  simp only [execOp, hop]
  go_simp
  exact hK' _ _ hK
theorem gw_eqcI (ho : ops[i]? = some o) (hw : Region.wanted o (yielded ops a.tmps) = true) (s : Tmp) (n m : Int) (hop : o.op = Op.binOp BinOp.eql 3 (.tmp s) (.const (.int .i64 m)) 3) (hx : a.tmps[s]? = some (.int .i64 n)) (hK : K (a.put o.dst (.bool (n == m))) w) : wpOp Tryz.prog ops Q i K a w :=
 wpOp_step ho fun K' hK' => by
  rw [if_pos hw]
  unfold Oper.wp
  simp only [execOp, hop]
  go_simp
  exact hK' _ _ hK
theorem gw_lenS (ho : ops[i]? = some o) (hw : Region.wanted o (yielded ops a.tmps) = true) (s : Tmp) (A : Option Addr) (n c : Nat) (hop : o.op = Op.call { callee := .builtin .len, args := #[.tmp s], argTypes := #[60] }) (hx : a.tmps[s]? = some (.slice A n c)) (hK : K (a.put o.dst (.int .i64 (n : Int))) w) : wpOp Tryz.prog ops Q i K a w :=
 wpOp_step ho fun K' hK' => by
  rw [if_pos hw]
  unfold Oper.wp
  simp only [execOp, hop]
  go_simp
  exact hK' _ _ hK
theorem gw_0 (ho : ops[i]? = some o) (hw : Region.wanted o (yielded ops a.tmps) = true) (f : FuncId) (ts : Array TypeId) (hop : o.op = Op.call { callee := Callee.value (Operand.func f), args := #[], argTypes := ts }) (hf : ∀ (w : World), (callFunc f #[]).run Tryz.prog w = .ok (.enter f #[]) w) (hc : Calls Tryz.prog f #[] w fun e w' => ∃ r, e = .returned r ∧ K (a.put o.dst r) w') : wpOp Tryz.prog ops Q i K a w :=
 wpOp_step ho fun K' hK' => by
  rw [if_pos hw]
  unfold Oper.wp
  simp only [execOp, hop]
  go_simp
  refine hc.mono ?_
  rintro e w' ⟨r, rfl, h⟩
  exact hK' _ _ h
theorem gw_ct (ho : ops[i]? = some o) (hw : Region.wanted o (yielded ops a.tmps) = true) (f : FuncId) (s1 : Tmp) (v0 v1 : Value) (ts : Array TypeId) (hop : o.op = Op.call { callee := Callee.value (Operand.func f), args := #[.const v0, .tmp s1], argTypes := ts }) (hf : ∀ (v0 v1 : Value) (w : World), (callFunc f #[v0, v1]).run Tryz.prog w = .ok (.enter f #[v0, v1]) w) (h1 : a.tmps[s1]? = some v1) (hc : Calls Tryz.prog f #[v0, v1] w fun e w' => ∃ r, e = .returned r ∧ K (a.put o.dst r) w') : wpOp Tryz.prog ops Q i K a w :=
 wpOp_step ho fun K' hK' => by
  rw [if_pos hw]
  unfold Oper.wp
  simp only [execOp, hop]
  go_simp
  refine hc.mono ?_
  rintro e w' ⟨r, rfl, h⟩
  exact hK' _ _ h
end
set_option maxHeartbeats 4000000 in
set_option maxRecDepth 100000 in
theorem valueO (i : Nat) (hi : i < 25) (l : List Ob) (v : Value) (w : World) (hv : Ar w l v) (hl : l.length = arB.getD i 0) (hF : ∀ o ∈ l, Fine o) (hI : i = 23 ∨ i = 24 → ∀ o ∈ l, IntO o) (hg : Good (primV i l)) (ht : Tab w) : Calls Tryz.prog 13 #[.string (nmS i), v] w (RetH w (primV i l)) := by
 have CA : Hid (∀ W, Below w.heap.size w W → Calls Tryz.prog 17 #[.agg #[.string (BA lispB), .string (nmS i)], v] W (fun e w' => ∃ p, e = .returned (.tuple #[vO (primV i l) p, .int .i64 0]) ∧ Hd w' (primV i l) p ∧ Below W.heap.size W w')) := fun W hb => by
  have h := applyPall (BA lispB) (nmS i) l v W (hv.below hb) true (ht.below hb) hF (fun j hj => by rw [fnd_at i hi] at hj; injection hj with hj; subst hj; exact hI) (fun j hj _ W q hq _ => by
   rw [fnd_at i hi] at hj; injection hj with hj; subst hj; exact validGP _ q W hg hq)
  rw [fnd_at i hi, show appV true (some i) l = (some (primV i l), 0) from if_pos hl] at h
  exact h
 obtain ⟨A, c, rfl, hv1, hv2⟩ := hv
 clear hF hI hg hl ht hv1 hv2
 generalize primV i l = res at CA ⊢
 generalize l.length = n at *
 generalize nmS i = nm at *
 have T := Bx1.new w #[.int .i64 0, .string ⟨#[]⟩, .string ⟨#[]⟩, .string ⟨#[]⟩, .string ⟨#[]⟩, .string ⟨#[]⟩, .slice none 0 0]
 go_enter Tryz.func13, Tryz.ntmps13
 go_upto_region 1 with fail
 generalize w.alloc (.cells #[.int .i64 0, .string ⟨#[]⟩, .string ⟨#[]⟩, .string ⟨#[]⟩, .string ⟨#[]⟩, .string ⟨#[]⟩, .slice none 0 0] 27) = W at T ⊢
 have R0 := qh9 T.b0
 have HW := qh9 T.bel
 clear T  
 go_wp2_with fail
 with_reducible refine (lispO _ _).mono ?_
 rintro e w1 ⟨rfl, hb⟩
 replace R0 := qh9 (R0.out.keep hb)
 replace HW := qc9 HW hb
 clear hb
 go_wp2_with fail
 with_reducible refine (CA.out _ HW.out).mono ?_
 rintro e w2 ⟨pr, rfl, kr, hb⟩
 replace R0 := qh9 (R0.out.keep hb)
 replace HW := qc9 HW hb
 clear hb CA
 replace kr := qh9 kr
 have N1 := qh9 (Bx1.new w2 #[.int .i64 0, .string ⟨#[]⟩, .string ⟨#[]⟩, .string ⟨#[]⟩, .string ⟨#[]⟩, .string ⟨#[]⟩, .slice none 0 0])
 go_upto_region 2 with ((with_reducible refine storeB (w1 := w2) (g := w2.heap.size) (b := res) (p := pr) (.tmp 5) (.tmp 12) ?_ ?_ ?_ ?_ kr.out N1.out.b0 ?_); rfl; rfl; rfl; rfl)
 have Q := Pt1.new (w := w2) (o := res) (p := pr) (z := #[.int .i64 0, .string ⟨#[]⟩, .string ⟨#[]⟩, .string ⟨#[]⟩, .string ⟨#[]⟩, .string ⟨#[]⟩, .slice none 0 0])
 generalize World.setRow (w2.alloc (.cells #[.int .i64 0, .string ⟨#[]⟩, .string ⟨#[]⟩, .string ⟨#[]⟩, .string ⟨#[]⟩, .string ⟨#[]⟩, .slice none 0 0] 27)) w2.heap.size (cellsO res pr).toArray = X2 at Q ⊢
 have hb := Q.bel
 replace R0 := qh9 (R0.out.keep hb)
 replace HW := qc9 HW hb
 replace kr := qh9 (kr.out.below hb)
 have B1 := qh9 Q.b0
 clear hb Q N1
 go_wp2_with (first | ((with_reducible refine storeB (w1 := X2) (g := w.heap.size) (b := res) (p := pr) (.tmp 4) (.tmp 17) ?_ ?_ ?_ ?_ kr.out R0.out ?_); rfl; rfl; rfl; rfl) | ((with_reducible refine loadB (.tmp 5) ?_ ?_ ?_ B1.out ?_); rfl; rfl; rfl) | ((with_reducible refine loadG (.tmp 5) ?_ ?_ ?_ B1.out ?_); rfl; rfl; rfl))
 exact retHs rfl rfl R0.out rfl kr.out (by omega) HW.out
theorem fv1 : appV true (some 23) [.str (LA ⟨#[97, 98]⟩), inO 1] = (some (inO 98), 0) := by kernel_rfl
theorem fv2 : appV true (some 13) [inO 0] = (some (inO 0), 0) := by kernel_rfl
theorem pw2 : primV 13 [inO 0] = inO 0 := by kernel_rfl
theorem pw1 : primV 23 [.str (LA ⟨#[97, 98]⟩), inO 1] = inO 98 := by kernel_rfl
theorem fv3 : grdV (some 3) [inO 5] = false := by kernel_rfl
theorem fineI {n : Int} (h : n.natAbs < 10 ^ 10) : Fine (inO n) := ⟨(bd_int (k := 10) h (by decide)).more (by decide), by show 1 ≤ 1000; decide⟩
theorem intsI {n : Int} (h : I64 n) : IntO (inO n) := fun q e => by
 have e2 : (n : Rat) = q := by injection e
 subst e2
 rw [Rat.num_intCast]
 exact h
theorem fineS {s : List UInt8} (h : s.length ≤ 200) : Fine (.str s) := ⟨h, by show 1 ≤ 1000; decide⟩
theorem intsS {s : List UInt8} : IntO (.str s) := fun q e => by cases e
set_option maxHeartbeats 16000000 in
set_option maxRecDepth 100000 in
theorem first7 (w : World) (ht : Tab w) : Calls Tryz.prog 8 #[] w (RetB w true) := by
 have CA1 : Hid (∀ W v, Ar W [.str (LA ⟨#[97, 98]⟩), inO 1] v → Tab W → Calls Tryz.prog 17 #[.agg #[.string (BA lispB), .string ⟨#[115, 116, 114, 105, 110, 103, 45, 98, 121, 116, 101]⟩], v] W (fun e w' => ∃ p, e = .returned (.tuple #[vO (inO 98) p, .int .i64 0]) ∧ Hd w' (inO 98) p ∧ Below W.heap.size W w')) := fun W v hv hT => by
  have h := applyPall (BA lispB) (nmS 23) _ v W hv true hT (fun o ho => by
   rcases List.mem_cons.1 ho with rfl | ho
   · exact fineS (by decide)
   · rw [List.mem_singleton] at ho; subst ho; exact fineI (by decide)) (fun j hj _ o ho => by
   rcases List.mem_cons.1 ho with rfl | ho
   · exact intsS
   · rw [List.mem_singleton] at ho; subst ho; exact intsI (by constructor <;> decide)) (fun j hj _ W q hq _ => by
   rw [fnd_at 23 (by decide)] at hj; injection hj with hj; subst hj
   rw [pw1] at hq ⊢
   exact validGP _ q W (good_in (n := 98) (k := 10) (by decide) (by decide)) hq)
  rw [fnd_at 23 (by decide), fv1] at h
  exact h
 have CA2 : Hid (∀ W v, Ar W [inO 0] v → Tab W → Calls Tryz.prog 17 #[.agg #[.string (BA lispB), .string ⟨#[117, 110, 97, 114, 121, 45, 47]⟩], v] W (fun e w' => ∃ p, e = .returned (.tuple #[vO (inO 0) p, .int .i64 0]) ∧ Hd w' (inO 0) p ∧ Below W.heap.size W w')) := fun W v hv hT => by
  have h := applyPall (BA lispB) (nmS 13) _ v W hv true hT (fun o ho => by rw [List.mem_singleton] at ho; subst ho; exact fineI (by decide)) (fun j hj _ o ho => by rw [List.mem_singleton] at ho; subst ho; exact intsI (by constructor <;> decide)) (fun j hj _ W q hq _ => by
   rw [fnd_at 13 (by decide)] at hj; injection hj with hj; subst hj
   rw [pw2] at hq ⊢
   exact validGP _ q W (good_in (n := 0) (k := 10) (by decide) (by decide)) hq)
  rw [fnd_at 13 (by decide), fv2] at h
  exact h
 have CG : Hid (∀ W v, Ar W [inO 5] v → Tab W → Calls Tryz.prog 32 #[.agg #[.string (BA lispB), .string ⟨#[99, 97, 114]⟩], v] W (RetB W false)) := fun W v hv hT => by
  have h := guardPall (BA lispB) (nmS 3) _ v W hv hT (fun o ho => by rw [List.mem_singleton] at ho; subst ho; exact fineI (by decide)) (fun j hj _ o ho => by rw [List.mem_singleton] at ho; subst ho; exact intsI (by constructor <;> decide))
  rw [fnd_at 3 (by decide), fv3] at h
  exact h
 have CR : Hid (∀ W, Calls Tryz.prog 31 #[.agg #[.string (BA lispB), .string ⟨#[105, 102]⟩]] W (RetIB W 3 true)) := fun W => by
  have h := arityP (BA lispB) (nmS 0) W
  rw [fnd_at 0 (by decide)] at h
  exact h
 have CI0 : Hid (∀ W, Tab W → Calls Tryz.prog 10 #[.int .i64 0] W (RetH W (inO 0))) := fun W hT => intRH 0 W (i64_small (by decide)) hT
 have CI1 : Hid (∀ W, Tab W → Calls Tryz.prog 10 #[.int .i64 1] W (RetH W (inO 1))) := fun W hT => intRH 1 W (i64_small (by decide)) hT
 have CI5 : Hid (∀ W, Tab W → Calls Tryz.prog 10 #[.int .i64 5] W (RetH W (inO 5))) := fun W hT => intRH 5 W (i64_small (by decide)) hT
 have CI98 : Hid (∀ W, Tab W → Calls Tryz.prog 10 #[.int .i64 98] W (RetH W (inO 98))) := fun W hT => intRH 98 W (i64_small (by decide)) hT
 have CT : Hid (∀ W, Calls Tryz.prog 9 #[.string ⟨#[97, 98]⟩] W (RetH W (.str (LA ⟨#[97, 98]⟩)))) := fun W => textRH _ W
 have CL : Hid (∀ s W, Calls Tryz.prog 18 #[.string s] W (RetY W (.agg #[.string (BA lispB), .string s]))) := fun s W => lispO s W
 have CE : Hid (∀ (x : Ob) W p q, Hd W x p → Hd W x q → Calls Tryz.prog 12 #[vO x p, vO x q] W (RetB W true)) := fun x W p q h1 h2 => by
  have h := equalO x x p q W (Has W) (In.has W) h1 h2
  rw [decide_eq_true rfl] at h
  exact h
 generalize Ob.str (LA ⟨#[97, 98]⟩) = sAB at *
 generalize inO 98 = i98 at *
 generalize inO 0 = i0 at *
 generalize inO 1 = i1 at *
 generalize inO 5 = i5 at *
 generalize BA lispB = L at *
 have HT := qh9 ht
 have HW := qh9 (Below.refl w.heap.size w)
 clear ht
 go_enter Tryz.func8, Tryz.ntmps8
 go_wp2_with fail
 with_reducible refine (CL.out _ _).mono ?_
 rintro e w1 ⟨rfl, hb⟩
 replace HT := qh9 (HT.out.below hb)
 replace HW := qc9 HW hb
 clear hb
 go_wp2_with fail
 with_reducible refine (CT.out _).mono ?_
 rintro e w2 ⟨pt, rfl, kt, hb⟩
 replace HT := qh9 (HT.out.below hb)
 replace HW := qc9 HW hb
 clear hb
 replace kt := qh9 kt
 go_wp2_with fail
 with_reducible refine (CI1.out _ HT.out).mono ?_
 rintro e w3 ⟨pi, rfl, ki, hb⟩
 replace HT := qh9 (HT.out.below hb)
 replace HW := qc9 HW hb
 replace kt := qh9 (kt.out.below hb)
 clear hb
 replace ki := qh9 ki
 obtain ⟨c0, c1, c2, c3, c4, c5, ec⟩ := cells7 sAB pt
 rw [show vO sAB pt = .agg #[c0, c1, c2, c3, c4, c5, pt] from congrArg (fun l : List Value => Value.agg l.toArray) ec]
 obtain ⟨d0, d1, d2, d3, d4, d5, ed⟩ := cells7 i1 pi
 rw [show vO i1 pi = .agg #[d0, d1, d2, d3, d4, d5, pi] from congrArg (fun l : List Value => Value.agg l.toArray) ed]
 go_wp2_with fail
 have hb : Below w3.heap.size w3 (w3.alloc (.cells #[c0, c1, c2, c3, c4, c5, pt, d0, d1, d2, d3, d4, d5, pi] 27)) := Below.alloc (Below.refl _ _) (Nat.le_refl _) _
 have hA0 : Ar (w3.alloc (.cells #[c0, c1, c2, c3, c4, c5, pt, d0, d1, d2, d3, d4, d5, pi] 27)) [sAB, i1] (.slice (some ⟨w3.heap.size, 0, none⟩) 2 2) := by
  have h := ar_new2 kt.out ki.out
  rw [ec, ed] at h
  exact h
 generalize w3.alloc (.cells #[c0, c1, c2, c3, c4, c5, pt, d0, d1, d2, d3, d4, d5, pi] 27) = Y1 at hb hA0 ⊢
 replace HT := qh9 (HT.out.below hb)
 replace HW := qc9 HW hb
 replace kt := qh9 (kt.out.below hb)
 replace ki := qh9 (ki.out.below hb)
 have HA := qh9 hA0
 clear hb hA0
 with_reducible refine (CA1.out _ _ HA.out HT.out).mono ?_
 rintro e w4 ⟨p1, rfl, k1, hb⟩
 replace HT := qh9 (HT.out.below hb)
 replace HW := qc9 HW hb
 replace kt := qh9 (kt.out.below hb)
 replace ki := qh9 (ki.out.below hb)
 clear hb HA
 replace k1 := qh9 k1
 have N1 := qh9 (Bx1.new w4 #[.int .i64 0, .string ⟨#[]⟩, .string ⟨#[]⟩, .string ⟨#[]⟩, .string ⟨#[]⟩, .string ⟨#[]⟩, .slice none 0 0])
 go_upto_region 2 with ((with_reducible refine storeB (w1 := w4) (g := w4.heap.size) (b := i98) (p := p1) (.tmp 1) (.tmp 13) ?_ ?_ ?_ ?_ k1.out N1.out.b0 ?_); rfl; rfl; rfl; rfl)
 have Q := Pt1.new (w := w4) (o := i98) (p := p1) (z := #[.int .i64 0, .string ⟨#[]⟩, .string ⟨#[]⟩, .string ⟨#[]⟩, .string ⟨#[]⟩, .string ⟨#[]⟩, .slice none 0 0])
 generalize World.setRow (w4.alloc (.cells #[.int .i64 0, .string ⟨#[]⟩, .string ⟨#[]⟩, .string ⟨#[]⟩, .string ⟨#[]⟩, .string ⟨#[]⟩, .slice none 0 0] 27)) w4.heap.size (cellsO (i98) p1).toArray = X4 at Q ⊢
 have hb := Q.bel
 replace HT := qh9 (HT.out.below hb)
 replace HW := qc9 HW hb
 replace kt := qh9 (kt.out.below hb)
 replace ki := qh9 (ki.out.below hb)
 replace k1 := qh9 (k1.out.below hb)
 have G1 := qh9 Q.b0
 clear hb Q N1
 go_wp2_with fail
 with_reducible refine (CL.out _ _).mono ?_
 rintro e w5 ⟨rfl, hb⟩
 replace HT := qh9 (HT.out.below hb)
 replace HW := qc9 HW hb
 replace kt := qh9 (kt.out.below hb)
 replace ki := qh9 (ki.out.below hb)
 replace k1 := qh9 (k1.out.below hb)
 replace G1 := qh9 (G1.out.keep hb)
 clear hb
 go_wp2_with fail
 with_reducible refine (CI0.out _ HT.out).mono ?_
 rintro e w6 ⟨pj, rfl, kj, hb⟩
 replace HT := qh9 (HT.out.below hb)
 replace HW := qc9 HW hb
 replace kt := qh9 (kt.out.below hb)
 replace ki := qh9 (ki.out.below hb)
 replace k1 := qh9 (k1.out.below hb)
 replace G1 := qh9 (G1.out.keep hb)
 clear hb
 replace kj := qh9 kj
 obtain ⟨f0, f1, f2, f3, f4, f5, ef⟩ := cells7 i0 pj
 rw [show vO i0 pj = .agg #[f0, f1, f2, f3, f4, f5, pj] from congrArg (fun l : List Value => Value.agg l.toArray) ef]
 go_wp2_with fail
 have hb : Below w6.heap.size w6 (w6.alloc (.cells #[f0, f1, f2, f3, f4, f5, pj] 27)) := Below.alloc (Below.refl _ _) (Nat.le_refl _) _
 have hA0 : Ar (w6.alloc (.cells #[f0, f1, f2, f3, f4, f5, pj] 27)) [i0] (.slice (some ⟨w6.heap.size, 0, none⟩) 1 1) := by
  have h := ar_new1 kj.out
  rw [ef] at h
  exact h
 generalize w6.alloc (.cells #[f0, f1, f2, f3, f4, f5, pj] 27) = Y2 at hb hA0 ⊢
 replace HT := qh9 (HT.out.below hb)
 replace HW := qc9 HW hb
 replace kt := qh9 (kt.out.below hb)
 replace ki := qh9 (ki.out.below hb)
 replace k1 := qh9 (k1.out.below hb)
 replace G1 := qh9 (G1.out.keep hb)
 replace kj := qh9 (kj.out.below hb)
 have HA := qh9 hA0
 clear hb hA0
 with_reducible refine (CA2.out _ _ HA.out HT.out).mono ?_
 rintro e w7 ⟨p2, rfl, k2, hb⟩
 replace HT := qh9 (HT.out.below hb)
 replace HW := qc9 HW hb
 replace kt := qh9 (kt.out.below hb)
 replace ki := qh9 (ki.out.below hb)
 replace k1 := qh9 (k1.out.below hb)
 replace G1 := qh9 (G1.out.keep hb)
 replace kj := qh9 (kj.out.below hb)
 clear hb HA
 replace k2 := qh9 k2
 have N1 := qh9 (Bx1.new w7 #[.int .i64 0, .string ⟨#[]⟩, .string ⟨#[]⟩, .string ⟨#[]⟩, .string ⟨#[]⟩, .string ⟨#[]⟩, .slice none 0 0])
 go_upto_region 3 with ((with_reducible refine storeB (w1 := w7) (g := w7.heap.size) (b := i0) (p := p2) (.tmp 3) (.tmp 20) ?_ ?_ ?_ ?_ k2.out N1.out.b0 ?_); rfl; rfl; rfl; rfl)
 have Q := Pt1.new (w := w7) (o := i0) (p := p2) (z := #[.int .i64 0, .string ⟨#[]⟩, .string ⟨#[]⟩, .string ⟨#[]⟩, .string ⟨#[]⟩, .string ⟨#[]⟩, .slice none 0 0])
 generalize World.setRow (w7.alloc (.cells #[.int .i64 0, .string ⟨#[]⟩, .string ⟨#[]⟩, .string ⟨#[]⟩, .string ⟨#[]⟩, .string ⟨#[]⟩, .slice none 0 0] 27)) w7.heap.size (cellsO (i0) p2).toArray = X7 at Q ⊢
 have hb := Q.bel
 replace HT := qh9 (HT.out.below hb)
 replace HW := qc9 HW hb
 replace kt := qh9 (kt.out.below hb)
 replace ki := qh9 (ki.out.below hb)
 replace k1 := qh9 (k1.out.below hb)
 replace G1 := qh9 (G1.out.keep hb)
 replace kj := qh9 (kj.out.below hb)
 replace k2 := qh9 (k2.out.below hb)
 have G2 := qh9 Q.b0
 clear hb Q N1
 go_wp2_with fail
 with_reducible refine (CL.out _ _).mono ?_
 rintro e w8 ⟨rfl, hb⟩
 replace HT := qh9 (HT.out.below hb)
 replace HW := qc9 HW hb
 replace kt := qh9 (kt.out.below hb)
 replace ki := qh9 (ki.out.below hb)
 replace k1 := qh9 (k1.out.below hb)
 replace G1 := qh9 (G1.out.keep hb)
 replace kj := qh9 (kj.out.below hb)
 replace k2 := qh9 (k2.out.below hb)
 replace G2 := qh9 (G2.out.keep hb)
 clear hb
 go_wp2_with fail
 with_reducible refine (CR.out _).mono ?_
 rintro e w9 ⟨rfl, hb⟩
 replace HT := qh9 (HT.out.below hb)
 replace HW := qc9 HW hb
 replace kt := qh9 (kt.out.below hb)
 replace ki := qh9 (ki.out.below hb)
 replace k1 := qh9 (k1.out.below hb)
 replace G1 := qh9 (G1.out.keep hb)
 replace kj := qh9 (kj.out.below hb)
 replace k2 := qh9 (k2.out.below hb)
 replace G2 := qh9 (G2.out.keep hb)
 clear hb
 clear kt ki kj CA1 CA2 CR ec ed ef
 go_upto_region 4 with fail
 refine wp_region_grow (l := _) 35 (by kernel_rfl) (by kernel_rfl) (fun i => [27, 28, 29, 30, 31, 32, 33, 34, 35, 36, 37, 38, 39, 40, 41, 42, 43, 44, 45, 46, 47, 48, 49, 50, 51, 52, 53, 54, 55, 56, 57, 58, 59, 60, 61].getD i 0) (LR [LV (.int .i64 0), LV (.bool true), LV (.bool true), LV (.int .i64 0), LV (.bool true), LV (.bool true), LV (.bool true), LV (vO (i98) p1), LH (i98), LV (.bool true), LV (.bool true), LV (.bool true), LV (vO (i0) p2), LH (i0), LV (.bool true), LV (.bool true), LV (.bool true), LV (.int .i64 3), LV (.bool true), LV (.bool true), LV (.bool true), LV (.bool true), LV (.bool true), LV (.bool true), LV (.agg #[.string L, .string ⟨#[99, 97, 114]⟩]), LH (i5), LAr [i5], LV (.bool false), LV (.bool true), LV (.bool true), LV (.bool true), LSl 25, LV (.int .i64 25), LV (.bool true), LV (.bool true)]) (LR_mono (l := [LV (.int .i64 0), LV (.bool true), LV (.bool true), LV (.int .i64 0), LV (.bool true), LV (.bool true), LV (.bool true), LV (vO (i98) p1), LH (i98), LV (.bool true), LV (.bool true), LV (.bool true), LV (vO (i0) p2), LH (i0), LV (.bool true), LV (.bool true), LV (.bool true), LV (.int .i64 3), LV (.bool true), LV (.bool true), LV (.bool true), LV (.bool true), LV (.bool true), LV (.bool true), LV (.agg #[.string L, .string ⟨#[99, 97, 114]⟩]), LH (i5), LAr [i5], LV (.bool false), LV (.bool true), LV (.bool true), LV (.bool true), LSl 25, LV (.int .i64 25), LV (.bool true), LV (.bool true)]) ⟨mLV _, mLV _, mLV _, mLV _, mLV _, mLV _, mLV _, mLV _, mLH _, mLV _, mLV _, mLV _, mLV _, mLH _, mLV _, mLV _, mLV _, mLV _, mLV _, mLV _, mLV _, mLV _, mLV _, mLV _, mLV _, mLH _, mLAr _, mLV _, mLV _, mLV _, mLV _, mLSl _, mLV _, mLV _, mLV _, trivial⟩) (by
  intro i j hi hj h
  exact inj_getD [27, 28, 29, 30, 31, 32, 33, 34, 35, 36, 37, 38, 39, 40, 41, 42, 43, 44, 45, 46, 47, 48, 49, 50, 51, 52, 53, 54, 55, 56, 57, 58, 59, 60, 61] (by decide) i j hi hj h) (by
  intro i hi
  exact lt_getD 62 [27, 28, 29, 30, 31, 32, 33, 34, 35, 36, 37, 38, 39, 40, 41, 42, 43, 44, 45, 46, 47, 48, 49, 50, 51, 52, 53, 54, 55, 56, 57, 58, 59, 60, 61] (by decide) i hi) ?step ?done
 case step =>
  intro i hi a w9 v lo hi' hoth hb hw
  have sl2 : a.tmps[2]? = some (.int .i64 0) := (hoth 2 (fun j hj => by
   have := ne_getD 2 [27, 28, 29, 30, 31, 32, 33, 34, 35, 36, 37, 38, 39, 40, 41, 42, 43, 44, 45, 46, 47, 48, 49, 50, 51, 52, 53, 54, 55, 56, 57, 58, 59, 60, 61] (by decide) j hj
   exact this)).trans rfl
  have sl4 : a.tmps[4]? = some (.int .i64 0) := (hoth 4 (fun j hj => by
   have := ne_getD 4 [27, 28, 29, 30, 31, 32, 33, 34, 35, 36, 37, 38, 39, 40, 41, 42, 43, 44, 45, 46, 47, 48, 49, 50, 51, 52, 53, 54, 55, 56, 57, 58, 59, 60, 61] (by decide) j hj
   exact this)).trans rfl
  have sl1 : a.tmps[1]? = some (.pointer (some ⟨w4.heap.size, 0, none⟩)) := (hoth 1 (fun j hj => by
   have := ne_getD 1 [27, 28, 29, 30, 31, 32, 33, 34, 35, 36, 37, 38, 39, 40, 41, 42, 43, 44, 45, 46, 47, 48, 49, 50, 51, 52, 53, 54, 55, 56, 57, 58, 59, 60, 61] (by decide) j hj
   exact this)).trans rfl
  have sl3 : a.tmps[3]? = some (.pointer (some ⟨w7.heap.size, 0, none⟩)) := (hoth 3 (fun j hj => by
   have := ne_getD 3 [27, 28, 29, 30, 31, 32, 33, 34, 35, 36, 37, 38, 39, 40, 41, 42, 43, 44, 45, 46, 47, 48, 49, 50, 51, 52, 53, 54, 55, 56, 57, 58, 59, 60, 61] (by decide) j hj
   exact this)).trans rfl
  have sl5 : a.tmps[5]? = some (.int .i64 3) := (hoth 5 (fun j hj => by
   have := ne_getD 5 [27, 28, 29, 30, 31, 32, 33, 34, 35, 36, 37, 38, 39, 40, 41, 42, 43, 44, 45, 46, 47, 48, 49, 50, 51, 52, 53, 54, 55, 56, 57, 58, 59, 60, 61] (by decide) j hj
   exact this)).trans rfl
  have sl6 : a.tmps[6]? = some (.bool true) := (hoth 6 (fun j hj => by
   have := ne_getD 6 [27, 28, 29, 30, 31, 32, 33, 34, 35, 36, 37, 38, 39, 40, 41, 42, 43, 44, 45, 46, 47, 48, 49, 50, 51, 52, 53, 54, 55, 56, 57, 58, 59, 60, 61] (by decide) j hj
   exact this)).trans rfl
  match i, hi with
  | 0, _ =>
   exact gw_move rfl (wanted_plain rfl) 2 _ rfl sl2 ⟨_, rfl, Below.refl _ _, rfl⟩
  | 1, _ =>
   obtain ⟨s0, r0, _⟩ := hw 0 (by omega) (by kernel_rfl)
   have e0 : v 0 = .int .i64 0 := r0
   rw [e0] at s0
   exact gw_eqcE rfl (wanted_plain rfl) 27 _ _ rfl s0 ⟨_, rfl, Below.refl _ _, rfl⟩
  | 2, _ =>
   obtain ⟨s0, r0, _⟩ := hw 1 (by omega) (by kernel_rfl)
   have e0 : v 1 = .bool true := r0
   rw [e0] at s0
   exact gw_move rfl (wanted_plain rfl) 28 _ rfl s0 ⟨_, rfl, Below.refl _ _, rfl⟩
  | 3, _ =>
   obtain ⟨s9, r9, _⟩ := hw 2 (by omega) (by kernel_rfl)
   have e9 : v 2 = .bool true := r9
   rw [e9] at s9
   exact gw_move rfl (wanted_on rfl rfl rfl s9 rfl) 4 _ rfl sl4 ⟨_, rfl, Below.refl _ _, rfl⟩
  | 4, _ =>
   obtain ⟨s9, r9, _⟩ := hw 2 (by omega) (by kernel_rfl)
   have e9 : v 2 = .bool true := r9
   rw [e9] at s9
   obtain ⟨s0, r0, _⟩ := hw 3 (by omega) (by kernel_rfl)
   have e0 : v 3 = .int .i64 0 := r0
   rw [e0] at s0
   exact gw_eqcE rfl (wanted_on rfl rfl rfl s9 rfl) 30 _ _ rfl s0 ⟨_, rfl, Below.refl _ _, rfl⟩
  | 5, _ =>
   obtain ⟨s0, r0, _⟩ := hw 2 (by omega) (by kernel_rfl)
   have e0 : v 2 = .bool true := r0
   rw [e0] at s0
   obtain ⟨s1, r1, _⟩ := hw 4 (by omega) (by kernel_rfl)
   have e1 : v 4 = .bool true := r1
   rw [e1] at s1
   exact gw_pickT rfl (wanted_plain rfl) 29 31 _ _ rfl s0 s1 ⟨_, rfl, Below.refl _ _, rfl⟩
  | 6, _ =>
   obtain ⟨s0, r0, _⟩ := hw 5 (by omega) (by kernel_rfl)
   have e0 : v 5 = .bool true := r0
   rw [e0] at s0
   exact gw_move rfl (wanted_plain rfl) 32 _ rfl s0 ⟨_, rfl, Below.refl _ _, rfl⟩
  | 7, _ =>
   obtain ⟨s9, r9, _⟩ := hw 6 (by omega) (by kernel_rfl)
   have e9 : v 6 = .bool true := r9
   rw [e9] at s9
   exact gw_box rfl (wanted_on rfl rfl rfl s9 rfl) (.tmp 1) rfl (eval_of sl1) (G1.out.keep hb) ⟨_, rfl, Below.refl _ _, rfl⟩
  | 8, _ =>
   obtain ⟨s9, r9, _⟩ := hw 6 (by omega) (by kernel_rfl)
   have e9 : v 6 = .bool true := r9
   rw [e9] at s9
   refine gw_c rfl (wanted_on rfl rfl rfl s9 rfl) 10  _ _ rfl (fun v w => by go_simp)  ?_
   with_reducible refine (CI98.out w9 (HT.out.below hb)).mono ?_
   rintro e w3 ⟨p, rfl, hp, hb3⟩
   exact ⟨_, rfl, _, rfl, hb3, p, rfl, hp⟩
  | 9, _ =>
   obtain ⟨s9, r9, _⟩ := hw 6 (by omega) (by kernel_rfl)
   have e9 : v 6 = .bool true := r9
   rw [e9] at s9
   obtain ⟨s0, r0, _⟩ := hw 7 (by omega) (by kernel_rfl)
   have e0 : v 7 = vO (i98) p1 := r0
   rw [e0] at s0
   obtain ⟨s1, r1, _⟩ := hw 8 (by omega) (by kernel_rfl)
   obtain ⟨qq1, e1, kk1⟩ : LH (i98) (v 8) (lo 8) (hi' 8) w9 := r1
   rw [e1] at s1
   refine gw_tt rfl (wanted_on rfl rfl rfl s9 rfl) 12 34 35 _ _ _ rfl (fun v u w => by go_simp) s0 s1 ?_
   with_reducible refine (CE.out i98 w9 _ _ (k1.out.below hb) kk1).mono ?_
   rintro e w3 ⟨rfl, hb3⟩
   exact ⟨_, rfl, _, rfl, hb3, rfl⟩
  | 10, _ =>
   obtain ⟨s0, r0, _⟩ := hw 6 (by omega) (by kernel_rfl)
   have e0 : v 6 = .bool true := r0
   rw [e0] at s0
   obtain ⟨s1, r1, _⟩ := hw 9 (by omega) (by kernel_rfl)
   have e1 : v 9 = .bool true := r1
   rw [e1] at s1
   exact gw_pickT rfl (wanted_plain rfl) 33 36 _ _ rfl s0 s1 ⟨_, rfl, Below.refl _ _, rfl⟩
  | 11, _ =>
   obtain ⟨s0, r0, _⟩ := hw 10 (by omega) (by kernel_rfl)
   have e0 : v 10 = .bool true := r0
   rw [e0] at s0
   exact gw_move rfl (wanted_plain rfl) 37 _ rfl s0 ⟨_, rfl, Below.refl _ _, rfl⟩
  | 12, _ =>
   obtain ⟨s9, r9, _⟩ := hw 11 (by omega) (by kernel_rfl)
   have e9 : v 11 = .bool true := r9
   rw [e9] at s9
   exact gw_box rfl (wanted_on rfl rfl rfl s9 rfl) (.tmp 3) rfl (eval_of sl3) (G2.out.keep hb) ⟨_, rfl, Below.refl _ _, rfl⟩
  | 13, _ =>
   obtain ⟨s9, r9, _⟩ := hw 11 (by omega) (by kernel_rfl)
   have e9 : v 11 = .bool true := r9
   rw [e9] at s9
   refine gw_c rfl (wanted_on rfl rfl rfl s9 rfl) 10  _ _ rfl (fun v w => by go_simp)  ?_
   with_reducible refine (CI0.out w9 (HT.out.below hb)).mono ?_
   rintro e w3 ⟨p, rfl, hp, hb3⟩
   exact ⟨_, rfl, _, rfl, hb3, p, rfl, hp⟩
  | 14, _ =>
   obtain ⟨s9, r9, _⟩ := hw 11 (by omega) (by kernel_rfl)
   have e9 : v 11 = .bool true := r9
   rw [e9] at s9
   obtain ⟨s0, r0, _⟩ := hw 12 (by omega) (by kernel_rfl)
   have e0 : v 12 = vO (i0) p2 := r0
   rw [e0] at s0
   obtain ⟨s1, r1, _⟩ := hw 13 (by omega) (by kernel_rfl)
   obtain ⟨qq1, e1, kk1⟩ : LH (i0) (v 13) (lo 13) (hi' 13) w9 := r1
   rw [e1] at s1
   refine gw_tt rfl (wanted_on rfl rfl rfl s9 rfl) 12 39 40 _ _ _ rfl (fun v u w => by go_simp) s0 s1 ?_
   with_reducible refine (CE.out i0 w9 _ _ (k2.out.below hb) kk1).mono ?_
   rintro e w3 ⟨rfl, hb3⟩
   exact ⟨_, rfl, _, rfl, hb3, rfl⟩
  | 15, _ =>
   obtain ⟨s0, r0, _⟩ := hw 11 (by omega) (by kernel_rfl)
   have e0 : v 11 = .bool true := r0
   rw [e0] at s0
   obtain ⟨s1, r1, _⟩ := hw 14 (by omega) (by kernel_rfl)
   have e1 : v 14 = .bool true := r1
   rw [e1] at s1
   exact gw_pickT rfl (wanted_plain rfl) 38 41 _ _ rfl s0 s1 ⟨_, rfl, Below.refl _ _, rfl⟩
  | 16, _ =>
   obtain ⟨s0, r0, _⟩ := hw 15 (by omega) (by kernel_rfl)
   have e0 : v 15 = .bool true := r0
   rw [e0] at s0
   exact gw_move rfl (wanted_plain rfl) 42 _ rfl s0 ⟨_, rfl, Below.refl _ _, rfl⟩
  | 17, _ =>
   obtain ⟨s9, r9, _⟩ := hw 16 (by omega) (by kernel_rfl)
   have e9 : v 16 = .bool true := r9
   rw [e9] at s9
   exact gw_move rfl (wanted_on rfl rfl rfl s9 rfl) 5 _ rfl sl5 ⟨_, rfl, Below.refl _ _, rfl⟩
  | 18, _ =>
   obtain ⟨s9, r9, _⟩ := hw 16 (by omega) (by kernel_rfl)
   have e9 : v 16 = .bool true := r9
   rw [e9] at s9
   obtain ⟨s0, r0, _⟩ := hw 17 (by omega) (by kernel_rfl)
   have e0 : v 17 = .int .i64 3 := r0
   rw [e0] at s0
   exact gw_eqcI rfl (wanted_on rfl rfl rfl s9 rfl) 44 _ _ rfl s0 ⟨_, rfl, Below.refl _ _, rfl⟩
  | 19, _ =>
   obtain ⟨s0, r0, _⟩ := hw 16 (by omega) (by kernel_rfl)
   have e0 : v 16 = .bool true := r0
   rw [e0] at s0
   obtain ⟨s1, r1, _⟩ := hw 18 (by omega) (by kernel_rfl)
   have e1 : v 18 = .bool true := r1
   rw [e1] at s1
   exact gw_pickT rfl (wanted_plain rfl) 43 45 _ _ rfl s0 s1 ⟨_, rfl, Below.refl _ _, rfl⟩
  | 20, _ =>
   obtain ⟨s0, r0, _⟩ := hw 19 (by omega) (by kernel_rfl)
   have e0 : v 19 = .bool true := r0
   rw [e0] at s0
   exact gw_move rfl (wanted_plain rfl) 46 _ rfl s0 ⟨_, rfl, Below.refl _ _, rfl⟩
  | 21, _ =>
   obtain ⟨s9, r9, _⟩ := hw 20 (by omega) (by kernel_rfl)
   have e9 : v 20 = .bool true := r9
   rw [e9] at s9
   exact gw_move rfl (wanted_on rfl rfl rfl s9 rfl) 6 _ rfl sl6 ⟨_, rfl, Below.refl _ _, rfl⟩
  | 22, _ =>
   obtain ⟨s0, r0, _⟩ := hw 20 (by omega) (by kernel_rfl)
   have e0 : v 20 = .bool true := r0
   rw [e0] at s0
   obtain ⟨s1, r1, _⟩ := hw 21 (by omega) (by kernel_rfl)
   have e1 : v 21 = .bool true := r1
   rw [e1] at s1
   exact gw_pickT rfl (wanted_plain rfl) 47 48 _ _ rfl s0 s1 ⟨_, rfl, Below.refl _ _, rfl⟩
  | 23, _ =>
   obtain ⟨s0, r0, _⟩ := hw 22 (by omega) (by kernel_rfl)
   have e0 : v 22 = .bool true := r0
   rw [e0] at s0
   exact gw_move rfl (wanted_plain rfl) 49 _ rfl s0 ⟨_, rfl, Below.refl _ _, rfl⟩
  | 24, _ =>
   obtain ⟨s9, r9, _⟩ := hw 23 (by omega) (by kernel_rfl)
   have e9 : v 23 = .bool true := r9
   rw [e9] at s9
   refine gw_c rfl (wanted_on rfl rfl rfl s9 rfl) 18  _ _ rfl (fun v w => by go_simp)  ?_
   with_reducible refine (CL.out _ w9).mono ?_
   rintro e w3 ⟨rfl, hb3⟩
   exact ⟨_, rfl, _, rfl, hb3, rfl⟩
  | 25, _ =>
   obtain ⟨s9, r9, _⟩ := hw 23 (by omega) (by kernel_rfl)
   have e9 : v 23 = .bool true := r9
   rw [e9] at s9
   refine gw_c rfl (wanted_on rfl rfl rfl s9 rfl) 10  _ _ rfl (fun v w => by go_simp)  ?_
   with_reducible refine (CI5.out w9 (HT.out.below hb)).mono ?_
   rintro e w3 ⟨p, rfl, hp, hb3⟩
   exact ⟨_, rfl, _, rfl, hb3, p, rfl, hp⟩
  | 26, _ =>
   obtain ⟨s9, r9, _⟩ := hw 23 (by omega) (by kernel_rfl)
   have e9 : v 23 = .bool true := r9
   rw [e9] at s9
   obtain ⟨s0, r0, _⟩ := hw 25 (by omega) (by kernel_rfl)
   obtain ⟨qq0, e0, kk0⟩ : LH (i5) (v 25) (lo 25) (hi' 25) w9 := r0
   rw [e0] at s0
   exact gw_bs1 rfl (wanted_on rfl rfl rfl s9 rfl) 52 rfl s0 ⟨_, rfl, Below.alloc (Below.refl _ _) (Nat.le_refl _) _, ar_new1 kk0⟩
  | 27, _ =>
   obtain ⟨s9, r9, _⟩ := hw 23 (by omega) (by kernel_rfl)
   have e9 : v 23 = .bool true := r9
   rw [e9] at s9
   obtain ⟨s0, r0, _⟩ := hw 24 (by omega) (by kernel_rfl)
   have e0 : v 24 = .agg #[.string L, .string ⟨#[99, 97, 114]⟩] := r0
   rw [e0] at s0
   obtain ⟨s1, r1, _⟩ := hw 26 (by omega) (by kernel_rfl)
   have e1 : Ar w9 [i5] (v 26) := r1
   refine gw_tt rfl (wanted_on rfl rfl rfl s9 rfl) 32 51 53 _ _ _ rfl (fun v u w => by go_simp) s0 s1 ?_
   with_reducible refine (CG.out w9 _ e1 (HT.out.below hb)).mono ?_
   rintro e w3 ⟨rfl, hb3⟩
   exact ⟨_, rfl, _, rfl, hb3, rfl⟩
  | 28, _ =>
   obtain ⟨s9, r9, _⟩ := hw 23 (by omega) (by kernel_rfl)
   have e9 : v 23 = .bool true := r9
   rw [e9] at s9
   obtain ⟨s0, r0, _⟩ := hw 27 (by omega) (by kernel_rfl)
   have e0 : v 27 = .bool false := r0
   rw [e0] at s0
   exact gw_not rfl (wanted_on rfl rfl rfl s9 rfl) 54 _ _ rfl s0 ⟨_, rfl, Below.refl _ _, rfl⟩
  | 29, _ =>
   obtain ⟨s0, r0, _⟩ := hw 23 (by omega) (by kernel_rfl)
   have e0 : v 23 = .bool true := r0
   rw [e0] at s0
   obtain ⟨s1, r1, _⟩ := hw 28 (by omega) (by kernel_rfl)
   have e1 : v 28 = .bool true := r1
   rw [e1] at s1
   exact gw_pickT rfl (wanted_plain rfl) 50 55 _ _ rfl s0 s1 ⟨_, rfl, Below.refl _ _, rfl⟩
  | 30, _ =>
   obtain ⟨s0, r0, _⟩ := hw 29 (by omega) (by kernel_rfl)
   have e0 : v 29 = .bool true := r0
   rw [e0] at s0
   exact gw_move rfl (wanted_plain rfl) 56 _ rfl s0 ⟨_, rfl, Below.refl _ _, rfl⟩
  | 31, _ =>
   obtain ⟨s9, r9, _⟩ := hw 30 (by omega) (by kernel_rfl)
   have e9 : v 30 = .bool true := r9
   rw [e9] at s9
   refine gw_0 rfl (wanted_on rfl rfl rfl s9 rfl) 33  _ rfl (fun  w => by go_simp)  ?_
   with_reducible refine (namesP w9).mono ?_
   rintro e w3 ⟨g, c, rfl, hc, hn, hb3⟩
   exact ⟨_, rfl, _, rfl, hb3, _, _, rfl⟩
  | 32, _ =>
   obtain ⟨s9, r9, _⟩ := hw 30 (by omega) (by kernel_rfl)
   have e9 : v 30 = .bool true := r9
   rw [e9] at s9
   obtain ⟨s0, r0, _⟩ := hw 31 (by omega) (by kernel_rfl)
   obtain ⟨A0, c0, e0⟩ : ∃ A c, v 31 = .slice A 25 c := r0
   rw [e0] at s0
   exact gw_lenS rfl (wanted_on rfl rfl rfl s9 rfl) 58 _ _ _ rfl s0 ⟨_, rfl, Below.refl _ _, rfl⟩
  | 33, _ =>
   obtain ⟨s9, r9, _⟩ := hw 30 (by omega) (by kernel_rfl)
   have e9 : v 30 = .bool true := r9
   rw [e9] at s9
   obtain ⟨s0, r0, _⟩ := hw 32 (by omega) (by kernel_rfl)
   have e0 : v 32 = .int .i64 25 := r0
   rw [e0] at s0
   exact gw_eqcI rfl (wanted_on rfl rfl rfl s9 rfl) 59 _ _ rfl s0 ⟨_, rfl, Below.refl _ _, rfl⟩
  | 34, _ =>
   obtain ⟨s0, r0, _⟩ := hw 30 (by omega) (by kernel_rfl)
   have e0 : v 30 = .bool true := r0
   rw [e0] at s0
   obtain ⟨s1, r1, _⟩ := hw 33 (by omega) (by kernel_rfl)
   have e1 : v 33 = .bool true := r1
   rw [e1] at s1
   exact gw_pickT rfl (wanted_plain rfl) 57 60 _ _ rfl s0 s1 ⟨_, rfl, Below.refl _ _, rfl⟩
  | k + 35, h => exact absurd h (by omega)
 case done =>
  intro a w9 v lo hi' hdef hsz hoth hb hj hap
  obtain ⟨_, hv34, _, _⟩ := hj 34 (by omega)
  have ha := eq_puts hdef hsz hoth (fun i hi => (hj i hi).1)
  subst ha
  clear hj hoth hdef hsz hap
  change v 34 = _ at hv34
  simp only [puts, List.getD_cons_zero, List.getD_cons_succ, hv34]
  generalize v 0 = v0
  generalize v 1 = v1
  generalize v 2 = v2
  generalize v 3 = v3
  generalize v 4 = v4
  generalize v 5 = v5
  generalize v 6 = v6
  generalize v 7 = v7
  generalize v 8 = v8
  generalize v 9 = v9
  generalize v 10 = v10
  generalize v 11 = v11
  generalize v 12 = v12
  generalize v 13 = v13
  generalize v 14 = v14
  generalize v 15 = v15
  generalize v 16 = v16
  generalize v 17 = v17
  generalize v 18 = v18
  generalize v 19 = v19
  generalize v 20 = v20
  generalize v 21 = v21
  generalize v 22 = v22
  generalize v 23 = v23
  generalize v 24 = v24
  generalize v 25 = v25
  generalize v 26 = v26
  generalize v 27 = v27
  generalize v 28 = v28
  generalize v 29 = v29
  generalize v 30 = v30
  generalize v 31 = v31
  generalize v 32 = v32
  generalize v 33 = v33
  clear hv34
  simp only [Act.put, List.setIfInBounds_toArray, List.set_cons_zero, List.set_cons_succ]
  show wpList _ _ _ [_] _ _
  replace HT := qh9 (HT.out.below hb)
  replace HW := qc9 HW hb
  replace k1 := qh9 (k1.out.below hb)
  replace G1 := qh9 (G1.out.keep hb)
  replace k2 := qh9 (k2.out.below hb)
  replace G2 := qh9 (G2.out.keep hb)
  clear hb
  go_wp2
  go_ret
  exact ⟨rfl, HW.out⟩
end Go.Proofs.YtbffnoodpoagcaaGreatDoor
