import Derived.Test.YteaieeokfiikgaaGreatDoorAl
import Derived.Test.YteaieeokfiikgaaGreatDoorG28
import Derived.Test.YteaieeokfiikgaaGreatDoorG21
import Derived.BigRegion
import Derived.Test.YteaieeokfiikgaaGreatDoorG22
import Derived.Deep.RegionHeld3
import Derived.OwnWalk
import Derived.Deep.MidRow
import Derived.Test.YteaieeokfiikgaaGreatDoorG19
import Derived.Test.YteaieeokfiikgaaGreatDoorG12
namespace Go.Proofs.YteaieeokfiikgaaGreatDoor
open Go Go.RowKit
set_option linter.unusedVariables false
set_option maxHeartbeats 4000000 in
set_option maxRecDepth 100000 in
theorem applyR3FT (fp fn : ByteArray) (x y z : Ob) (p q r : Value) (b o c : Nat) (w : World) (CF : Hid (∀ W, Calls Tryz.prog 16 #[.agg #[.string fp, .string fn]] W (RetIB W 3 true))) (hx : Ad w x b o p) (hy : Ad w y b (o + 7) q) (hz : Ad w z b (o + 14) r) (hc : 3 ≤ c) (ht : Tab w)
 (CN : Hid (∀ W s, Hd W x s → Calls Tryz.prog 39 #[vO x s] W (RetB W true))) (CO : Hid (∀ W q, Hd W z q → Tab W → Calls Tryz.prog 28 #[vO z q] W (RetB W false))) : Calls Tryz.prog 21 #[.agg #[.string fp, .string fn], .slice (some ⟨b, o, none⟩) 3 c] w (RetE w (none, 2)) := by
 have HT := qh9 ht
 have HX := qh9 hx
 have HY := qh9 hy
 have HZ := qh9 hz
 clear ht hx hy hz
 have A0 := ApW.new w fp fn
 go_enter Tryz.func21, Tryz.ntmps21
 go_wp2_with fail
 generalize (w.alloc (.cells #[.string fp, .string fn] 23)).alloc (.cells #[.int .i64 0, .string ⟨#[]⟩, .string ⟨#[]⟩, .string ⟨#[]⟩, .string ⟨#[]⟩, .string ⟨#[]⟩, .slice none 0 0] 36) = W at A0 ⊢
 refine (CF.out W).mono ?_
 rintro e w1 ⟨rfl, hb⟩
 have AX := qh9 (A0.keep hb)
 have HL := qh9 (show w.heap.size + 2 ≤ w1.heap.size from by have h1 := A0.r.lt; have h2 := hb.size; omega)
 clear A0 hb CF
 have T := Bx1.new w1 #[.int .i64 0, .string ⟨#[]⟩, .string ⟨#[]⟩, .string ⟨#[]⟩, .string ⟨#[]⟩, .string ⟨#[]⟩, .slice none 0 0]
 go_upto_region 8 with fail
 generalize w1.alloc (.cells #[.int .i64 0, .string ⟨#[]⟩, .string ⟨#[]⟩, .string ⟨#[]⟩, .string ⟨#[]⟩, .string ⟨#[]⟩, .slice none 0 0] 36) = W1 at T ⊢
 have hb := T.bel
 replace AX := qh9 (AX.out.keep hb)
 have B0 := qh9 T.b0
 clear T hb
 have HY1 := qh9 (HY.out.below AX.out.bel)
 go_upto_region 9 with (first
  | ((with_reducible refine loadA ?_ ?_ HY1.out ?_); exact ⟨_, rfl, rfl⟩; rfl)
  | ((with_reducible refine storeB (w1 := W1) (g := w1.heap.size) (b := y) (p := q) (.tmp 8) (.tmp 25) ?_ ?_ ?_ ?_ HY1.out.hd B0.out ?_); rfl; rfl; rfl; rfl))
 have hlr : w.heap.size + 2 ≤ w1.heap.size := HL.out
 have AX2 : ApW w (World.setRow W1 w1.heap.size (cellsO y q).toArray) fp fn := ⟨below_setRowO AX.out.bel (by omega) _, (setRow_other _ _ _ _ (by omega)).trans AX.out.s, AX.out.r.other (by omega)⟩
 have B1' := Bx.set (y := (cellsO y q).toArray) B0.out
 generalize World.setRow W1 w1.heap.size (cellsO y q).toArray = X2 at AX2 B1' ⊢
 replace AX := qh9 AX2
 have B1 := qh9 B1'
 clear AX2 B1' B0 HY1
 have HX1 := qh9 (HX.out.below AX.out.bel)
 go_wp2_with (first
  | ((with_reducible refine loadA ?_ ?_ HX1.out ?_); exact ⟨_, rfl, rfl⟩; rfl))
 refine (CN.out _ _ HX1.out.hd).mono ?_
 rintro e w2 ⟨rfl, hb⟩
 replace AX := qh9 (AX.out.keep hb)
 replace B1 := qh9 (B1.out.keep hb)
 clear hb HX1 CN
 have HZ1 := qh9 (HZ.out.below AX.out.bel)
 obtain ⟨y0, y1, y2, y3, y4, y5, ey⟩ := cells7 y q
 have B2 : Hid (Bx w2 w1.heap.size #[y0, y1, y2, y3, y4, y5, q]) := by
  have := B1.out
  rw [ey] at this
  exact this
 clear B1 ey
 go_upto_region 15 with (first
  | ((with_reducible refine loadA ?_ ?_ HZ1.out ?_); exact ⟨_, rfl, rfl⟩; rfl)
  | ((with_reducible refine storeB (w1 := w2) (g := w1.heap.size) (b := z) (p := r) (.tmp 8) (.tmp 32) ?_ ?_ ?_ ?_ HZ1.out.hd B2.out ?_); rfl; rfl; rfl; rfl))
 have AX2 : ApW w (World.setRow w2 w1.heap.size (cellsO z r).toArray) fp fn := ⟨below_setRowO AX.out.bel (by omega) _, (setRow_other _ _ _ _ (by omega)).trans AX.out.s, AX.out.r.other (by omega)⟩
 have B1' := Bx.set (y := (cellsO z r).toArray) B2.out
 generalize World.setRow w2 w1.heap.size (cellsO z r).toArray = X3 at AX2 B1' ⊢
 replace AX := qh9 AX2
 have B1 := qh9 B1'
 clear AX2 B1' B2 HZ1
 have KP := qh9 (HZ.out.below AX.out.bel).hd
 go_wp2_with ((with_reducible refine loadB (.tmp 8) ?_ ?_ ?_ B1.out ?_); rfl; rfl; rfl)
 refine (CO.out _ _ KP.out (HT.out.below AX.out.bel)).mono ?_
 rintro e w9 ⟨rfl, hb⟩
 replace AX := qh9 (AX.out.keep hb)
 replace KP := qh9 (KP.out.below hb)
 replace B1 := qh9 (B1.out.keep hb)
 clear hb CO
 go_wp2_with ((with_reducible refine storeZ (g := w.heap.size + 1) (.tmp 4) (.tmp 55) ?_ ?_ ?_ ?_ AX.out.r ?_); rfl; rfl; rfl; rfl)
 exact retEz rfl rfl rfl AX.out.r (by omega) AX.out.bel
set_option maxHeartbeats 4000000 in
set_option maxRecDepth 100000 in
theorem applyR3FF (fp fn : ByteArray) (x y z : Ob) (p q r : Value) (b o c : Nat) (w : World) (CF : Hid (∀ W, Calls Tryz.prog 16 #[.agg #[.string fp, .string fn]] W (RetIB W 3 true))) (hx : Ad w x b o p) (hy : Ad w y b (o + 7) q) (hz : Ad w z b (o + 14) r) (hc : 3 ≤ c) (ht : Tab w)
 (CN : Hid (∀ W s, Hd W x s → Calls Tryz.prog 39 #[vO x s] W (RetB W false))) (CO : Hid (∀ W q, Hd W y q → Tab W → Calls Tryz.prog 28 #[vO y q] W (RetB W false))) : Calls Tryz.prog 21 #[.agg #[.string fp, .string fn], .slice (some ⟨b, o, none⟩) 3 c] w (RetE w (none, 2)) := by
 have HT := qh9 ht
 have HX := qh9 hx
 have HY := qh9 hy
 have HZ := qh9 hz
 clear ht hx hy hz
 have A0 := ApW.new w fp fn
 go_enter Tryz.func21, Tryz.ntmps21
 go_wp2_with fail
 generalize (w.alloc (.cells #[.string fp, .string fn] 23)).alloc (.cells #[.int .i64 0, .string ⟨#[]⟩, .string ⟨#[]⟩, .string ⟨#[]⟩, .string ⟨#[]⟩, .string ⟨#[]⟩, .slice none 0 0] 36) = W at A0 ⊢
 refine (CF.out W).mono ?_
 rintro e w1 ⟨rfl, hb⟩
 have AX := qh9 (A0.keep hb)
 have HL := qh9 (show w.heap.size + 2 ≤ w1.heap.size from by have h1 := A0.r.lt; have h2 := hb.size; omega)
 clear A0 hb CF
 have T := Bx1.new w1 #[.int .i64 0, .string ⟨#[]⟩, .string ⟨#[]⟩, .string ⟨#[]⟩, .string ⟨#[]⟩, .string ⟨#[]⟩, .slice none 0 0]
 go_upto_region 8 with fail
 generalize w1.alloc (.cells #[.int .i64 0, .string ⟨#[]⟩, .string ⟨#[]⟩, .string ⟨#[]⟩, .string ⟨#[]⟩, .string ⟨#[]⟩, .slice none 0 0] 36) = W1 at T ⊢
 have hb := T.bel
 replace AX := qh9 (AX.out.keep hb)
 have B0 := qh9 T.b0
 clear T hb
 have HY1 := qh9 (HY.out.below AX.out.bel)
 go_upto_region 9 with (first
  | ((with_reducible refine loadA ?_ ?_ HY1.out ?_); exact ⟨_, rfl, rfl⟩; rfl)
  | ((with_reducible refine storeB (w1 := W1) (g := w1.heap.size) (b := y) (p := q) (.tmp 8) (.tmp 25) ?_ ?_ ?_ ?_ HY1.out.hd B0.out ?_); rfl; rfl; rfl; rfl))
 have hlr : w.heap.size + 2 ≤ w1.heap.size := HL.out
 have AX2 : ApW w (World.setRow W1 w1.heap.size (cellsO y q).toArray) fp fn := ⟨below_setRowO AX.out.bel (by omega) _, (setRow_other _ _ _ _ (by omega)).trans AX.out.s, AX.out.r.other (by omega)⟩
 have B1' := Bx.set (y := (cellsO y q).toArray) B0.out
 generalize World.setRow W1 w1.heap.size (cellsO y q).toArray = X2 at AX2 B1' ⊢
 replace AX := qh9 AX2
 have B1 := qh9 B1'
 clear AX2 B1' B0 HY1
 have HX1 := qh9 (HX.out.below AX.out.bel)
 go_wp2_with (first
  | ((with_reducible refine loadA ?_ ?_ HX1.out ?_); exact ⟨_, rfl, rfl⟩; rfl))
 refine (CN.out _ _ HX1.out.hd).mono ?_
 rintro e w2 ⟨rfl, hb⟩
 replace AX := qh9 (AX.out.keep hb)
 replace B1 := qh9 (B1.out.keep hb)
 clear hb HX1 CN
 have KP := qh9 (HY.out.below AX.out.bel).hd
 go_wp2_with ((with_reducible refine loadB (.tmp 8) ?_ ?_ ?_ B1.out ?_); rfl; rfl; rfl)
 refine (CO.out _ _ KP.out (HT.out.below AX.out.bel)).mono ?_
 rintro e w9 ⟨rfl, hb⟩
 replace AX := qh9 (AX.out.keep hb)
 replace KP := qh9 (KP.out.below hb)
 replace B1 := qh9 (B1.out.keep hb)
 clear hb CO
 go_wp2_with ((with_reducible refine storeZ (g := w.heap.size + 1) (.tmp 4) (.tmp 55) ?_ ?_ ?_ ?_ AX.out.r ?_); rfl; rfl; rfl; rfl)
 exact retEz rfl rfl rfl AX.out.r (by omega) AX.out.bel
set_option maxHeartbeats 4000000 in
set_option maxRecDepth 100000 in
theorem applyR3TT (fp fn : ByteArray) (x y z : Ob) (p q r : Value) (b o c : Nat) (w : World) (CF : Hid (∀ W, Calls Tryz.prog 16 #[.agg #[.string fp, .string fn]] W (RetIB W 3 true))) (hx : Ad w x b o p) (hy : Ad w y b (o + 7) q) (hz : Ad w z b (o + 14) r) (hc : 3 ≤ c) (ht : Tab w)
 (CN : Hid (∀ W s, Hd W x s → Calls Tryz.prog 39 #[vO x s] W (RetB W true))) (CO : Hid (∀ W q, Hd W z q → Tab W → Calls Tryz.prog 28 #[vO z q] W (RetB W true))) : Calls Tryz.prog 21 #[.agg #[.string fp, .string fn], .slice (some ⟨b, o, none⟩) 3 c] w (RetE w (some z, 0)) := by
 have HT := qh9 ht
 have HX := qh9 hx
 have HY := qh9 hy
 have HZ := qh9 hz
 clear ht hx hy hz
 have A0 := ApW.new w fp fn
 go_enter Tryz.func21, Tryz.ntmps21
 go_wp2_with fail
 generalize (w.alloc (.cells #[.string fp, .string fn] 23)).alloc (.cells #[.int .i64 0, .string ⟨#[]⟩, .string ⟨#[]⟩, .string ⟨#[]⟩, .string ⟨#[]⟩, .string ⟨#[]⟩, .slice none 0 0] 36) = W at A0 ⊢
 refine (CF.out W).mono ?_
 rintro e w1 ⟨rfl, hb⟩
 have AX := qh9 (A0.keep hb)
 have HL := qh9 (show w.heap.size + 2 ≤ w1.heap.size from by have h1 := A0.r.lt; have h2 := hb.size; omega)
 clear A0 hb CF
 have T := Bx1.new w1 #[.int .i64 0, .string ⟨#[]⟩, .string ⟨#[]⟩, .string ⟨#[]⟩, .string ⟨#[]⟩, .string ⟨#[]⟩, .slice none 0 0]
 go_upto_region 8 with fail
 generalize w1.alloc (.cells #[.int .i64 0, .string ⟨#[]⟩, .string ⟨#[]⟩, .string ⟨#[]⟩, .string ⟨#[]⟩, .string ⟨#[]⟩, .slice none 0 0] 36) = W1 at T ⊢
 have hb := T.bel
 replace AX := qh9 (AX.out.keep hb)
 have B0 := qh9 T.b0
 clear T hb
 have HY1 := qh9 (HY.out.below AX.out.bel)
 go_upto_region 9 with (first
  | ((with_reducible refine loadA ?_ ?_ HY1.out ?_); exact ⟨_, rfl, rfl⟩; rfl)
  | ((with_reducible refine storeB (w1 := W1) (g := w1.heap.size) (b := y) (p := q) (.tmp 8) (.tmp 25) ?_ ?_ ?_ ?_ HY1.out.hd B0.out ?_); rfl; rfl; rfl; rfl))
 have hlr : w.heap.size + 2 ≤ w1.heap.size := HL.out
 have AX2 : ApW w (World.setRow W1 w1.heap.size (cellsO y q).toArray) fp fn := ⟨below_setRowO AX.out.bel (by omega) _, (setRow_other _ _ _ _ (by omega)).trans AX.out.s, AX.out.r.other (by omega)⟩
 have B1' := Bx.set (y := (cellsO y q).toArray) B0.out
 generalize World.setRow W1 w1.heap.size (cellsO y q).toArray = X2 at AX2 B1' ⊢
 replace AX := qh9 AX2
 have B1 := qh9 B1'
 clear AX2 B1' B0 HY1
 have HX1 := qh9 (HX.out.below AX.out.bel)
 go_wp2_with (first
  | ((with_reducible refine loadA ?_ ?_ HX1.out ?_); exact ⟨_, rfl, rfl⟩; rfl))
 refine (CN.out _ _ HX1.out.hd).mono ?_
 rintro e w2 ⟨rfl, hb⟩
 replace AX := qh9 (AX.out.keep hb)
 replace B1 := qh9 (B1.out.keep hb)
 clear hb HX1 CN
 have HZ1 := qh9 (HZ.out.below AX.out.bel)
 obtain ⟨y0, y1, y2, y3, y4, y5, ey⟩ := cells7 y q
 have B2 : Hid (Bx w2 w1.heap.size #[y0, y1, y2, y3, y4, y5, q]) := by
  have := B1.out
  rw [ey] at this
  exact this
 clear B1 ey
 go_upto_region 15 with (first
  | ((with_reducible refine loadA ?_ ?_ HZ1.out ?_); exact ⟨_, rfl, rfl⟩; rfl)
  | ((with_reducible refine storeB (w1 := w2) (g := w1.heap.size) (b := z) (p := r) (.tmp 8) (.tmp 32) ?_ ?_ ?_ ?_ HZ1.out.hd B2.out ?_); rfl; rfl; rfl; rfl))
 have AX2 : ApW w (World.setRow w2 w1.heap.size (cellsO z r).toArray) fp fn := ⟨below_setRowO AX.out.bel (by omega) _, (setRow_other _ _ _ _ (by omega)).trans AX.out.s, AX.out.r.other (by omega)⟩
 have B1' := Bx.set (y := (cellsO z r).toArray) B2.out
 generalize World.setRow w2 w1.heap.size (cellsO z r).toArray = X3 at AX2 B1' ⊢
 replace AX := qh9 AX2
 have B1 := qh9 B1'
 clear AX2 B1' B2 HZ1
 have KP := qh9 (HZ.out.below AX.out.bel).hd
 go_wp2_with ((with_reducible refine loadB (.tmp 8) ?_ ?_ ?_ B1.out ?_); rfl; rfl; rfl)
 refine (CO.out _ _ KP.out (HT.out.below AX.out.bel)).mono ?_
 rintro e w9 ⟨rfl, hb⟩
 replace AX := qh9 (AX.out.keep hb)
 replace KP := qh9 (KP.out.below hb)
 replace B1 := qh9 (B1.out.keep hb)
 clear hb CO
 go_wp2_with (first | ((with_reducible refine loadB (.tmp 8) ?_ ?_ ?_ B1.out ?_); rfl; rfl; rfl) | ((with_reducible refine storeB (w1 := w9) (g := w.heap.size + 1) (b := z) (p := r) (.tmp 4) (.tmp 56) ?_ ?_ ?_ ?_ KP.out AX.out.r ?_); rfl; rfl; rfl; rfl))
 exact retEo rfl rfl rfl AX.out.r rfl KP.out (by omega) AX.out.bel
set_option maxHeartbeats 4000000 in
set_option maxRecDepth 100000 in
theorem applyR3TF (fp fn : ByteArray) (x y z : Ob) (p q r : Value) (b o c : Nat) (w : World) (CF : Hid (∀ W, Calls Tryz.prog 16 #[.agg #[.string fp, .string fn]] W (RetIB W 3 true))) (hx : Ad w x b o p) (hy : Ad w y b (o + 7) q) (hz : Ad w z b (o + 14) r) (hc : 3 ≤ c) (ht : Tab w)
 (CN : Hid (∀ W s, Hd W x s → Calls Tryz.prog 39 #[vO x s] W (RetB W false))) (CO : Hid (∀ W q, Hd W y q → Tab W → Calls Tryz.prog 28 #[vO y q] W (RetB W true))) : Calls Tryz.prog 21 #[.agg #[.string fp, .string fn], .slice (some ⟨b, o, none⟩) 3 c] w (RetE w (some y, 0)) := by
 have HT := qh9 ht
 have HX := qh9 hx
 have HY := qh9 hy
 have HZ := qh9 hz
 clear ht hx hy hz
 have A0 := ApW.new w fp fn
 go_enter Tryz.func21, Tryz.ntmps21
 go_wp2_with fail
 generalize (w.alloc (.cells #[.string fp, .string fn] 23)).alloc (.cells #[.int .i64 0, .string ⟨#[]⟩, .string ⟨#[]⟩, .string ⟨#[]⟩, .string ⟨#[]⟩, .string ⟨#[]⟩, .slice none 0 0] 36) = W at A0 ⊢
 refine (CF.out W).mono ?_
 rintro e w1 ⟨rfl, hb⟩
 have AX := qh9 (A0.keep hb)
 have HL := qh9 (show w.heap.size + 2 ≤ w1.heap.size from by have h1 := A0.r.lt; have h2 := hb.size; omega)
 clear A0 hb CF
 have T := Bx1.new w1 #[.int .i64 0, .string ⟨#[]⟩, .string ⟨#[]⟩, .string ⟨#[]⟩, .string ⟨#[]⟩, .string ⟨#[]⟩, .slice none 0 0]
 go_upto_region 8 with fail
 generalize w1.alloc (.cells #[.int .i64 0, .string ⟨#[]⟩, .string ⟨#[]⟩, .string ⟨#[]⟩, .string ⟨#[]⟩, .string ⟨#[]⟩, .slice none 0 0] 36) = W1 at T ⊢
 have hb := T.bel
 replace AX := qh9 (AX.out.keep hb)
 have B0 := qh9 T.b0
 clear T hb
 have HY1 := qh9 (HY.out.below AX.out.bel)
 go_upto_region 9 with (first
  | ((with_reducible refine loadA ?_ ?_ HY1.out ?_); exact ⟨_, rfl, rfl⟩; rfl)
  | ((with_reducible refine storeB (w1 := W1) (g := w1.heap.size) (b := y) (p := q) (.tmp 8) (.tmp 25) ?_ ?_ ?_ ?_ HY1.out.hd B0.out ?_); rfl; rfl; rfl; rfl))
 have hlr : w.heap.size + 2 ≤ w1.heap.size := HL.out
 have AX2 : ApW w (World.setRow W1 w1.heap.size (cellsO y q).toArray) fp fn := ⟨below_setRowO AX.out.bel (by omega) _, (setRow_other _ _ _ _ (by omega)).trans AX.out.s, AX.out.r.other (by omega)⟩
 have B1' := Bx.set (y := (cellsO y q).toArray) B0.out
 generalize World.setRow W1 w1.heap.size (cellsO y q).toArray = X2 at AX2 B1' ⊢
 replace AX := qh9 AX2
 have B1 := qh9 B1'
 clear AX2 B1' B0 HY1
 have HX1 := qh9 (HX.out.below AX.out.bel)
 go_wp2_with (first
  | ((with_reducible refine loadA ?_ ?_ HX1.out ?_); exact ⟨_, rfl, rfl⟩; rfl))
 refine (CN.out _ _ HX1.out.hd).mono ?_
 rintro e w2 ⟨rfl, hb⟩
 replace AX := qh9 (AX.out.keep hb)
 replace B1 := qh9 (B1.out.keep hb)
 clear hb HX1 CN
 have KP := qh9 (HY.out.below AX.out.bel).hd
 go_wp2_with ((with_reducible refine loadB (.tmp 8) ?_ ?_ ?_ B1.out ?_); rfl; rfl; rfl)
 refine (CO.out _ _ KP.out (HT.out.below AX.out.bel)).mono ?_
 rintro e w9 ⟨rfl, hb⟩
 replace AX := qh9 (AX.out.keep hb)
 replace KP := qh9 (KP.out.below hb)
 replace B1 := qh9 (B1.out.keep hb)
 clear hb CO
 go_wp2_with (first | ((with_reducible refine loadB (.tmp 8) ?_ ?_ ?_ B1.out ?_); rfl; rfl; rfl) | ((with_reducible refine storeB (w1 := w9) (g := w.heap.size + 1) (b := y) (p := q) (.tmp 4) (.tmp 56) ?_ ?_ ?_ ?_ KP.out AX.out.r ?_); rfl; rfl; rfl; rfl))
 exact retEo rfl rfl rfl AX.out.r rfl KP.out (by omega) AX.out.bel
theorem take_all {l : List Ob} {i : Nat} (hi : i < l.length) (f : Ob → Bool) : (l.take (i + 1)).all f = ((l.take i).all f && f l[i]) := by
 rw [List.take_succ_eq_append_getElem hi, List.all_append]
 simp
set_option maxHeartbeats 4000000 in
set_option maxRecDepth 100000 in
theorem guardR0 (fp fn : ByteArray) (v : Value) (w : World) (CF : Hid (∀ W, Calls Tryz.prog 16 #[.agg #[.string fp, .string fn]] W (RetIB W 0 false))) : Calls Tryz.prog 25 #[.agg #[.string fp, .string fn], v] w (RetB w false) := by
 have S0 := Sy.SB.new w (.string fp) (.string fn)
 have B0 : Below w.heap.size w (w.alloc (.cells #[.string fp, .string fn] 23)) := Below.alloc (Below.refl _ _) (Nat.le_refl _) _
 go_enter Tryz.func25, Tryz.ntmps25
 go_wp2_with fail
 generalize w.alloc (.cells #[.string fp, .string fn] 23) = W at S0 B0 ⊢
 refine (CF.out W).mono ?_
 rintro e w1 ⟨rfl, hb⟩
 have HF : Hid (Below w.heap.size w w1 ∧ Sy.SB w1 w.heap.size (.string fp) (.string fn)) := ⟨chain2 B0 hb (Nat.le_refl _), S0.keep hb⟩
 clear S0 B0 hb CF
 go_wp2
 go_ret
 exact ⟨rfl, HF.out.1⟩
set_option maxHeartbeats 4000000 in
set_option maxRecDepth 100000 in
theorem guardR9 (fp fn : ByteArray) (A : Option Addr) (n c : Nat) (a : Int) (w : World) (CF : Hid (∀ W, Calls Tryz.prog 16 #[.agg #[.string fp, .string fn]] W (RetIB W a true))) (hn2 : ((n : Int) != a) = true) : Calls Tryz.prog 25 #[.agg #[.string fp, .string fn], .slice A n c] w (RetB w false) := by
 have S0 := Sy.SB.new w (.string fp) (.string fn)
 have B0 : Below w.heap.size w (w.alloc (.cells #[.string fp, .string fn] 23)) := Below.alloc (Below.refl _ _) (Nat.le_refl _) _
 go_enter Tryz.func25, Tryz.ntmps25
 go_wp2_with fail
 generalize w.alloc (.cells #[.string fp, .string fn] 23) = W at S0 B0 ⊢
 refine (CF.out W).mono ?_
 rintro e w1 ⟨rfl, hb⟩
 have HF : Hid (Below w.heap.size w w1 ∧ Sy.SB w1 w.heap.size (.string fp) (.string fn)) := ⟨chain2 B0 hb (Nat.le_refl _), S0.keep hb⟩
 clear S0 B0 hb CF
 go_wp2
 go_ret
 exact ⟨rfl, HF.out.1⟩
set_option maxHeartbeats 4000000 in
set_option maxRecDepth 100000 in
theorem isNilR (o : Ob) (p : Value) (w : World) (S : Nat → Prop) (hS : In S w) (h : Pair w S o p) : Calls Tryz.prog 39 #[vO o p] w (RetB w (decide (o = .nil))) := by
 obtain ⟨x0, x1, x2, x3, x4, x5, e⟩ := cells7 o p
 have ev : vO o p = .agg #[x0, x1, x2, x3, x4, x5, p] := by unfold vO; rw [e]
 have CE : Hid (∀ X', Below w.heap.size w X' → Calls Tryz.prog 22 #[.agg #[x0, x1, x2, x3, x4, x5, p], .agg #[.int .i64 2, .string ⟨#[]⟩, .string ⟨#[]⟩, .string (BA lispB), .string (BA [110, 105, 108]), .string ⟨#[]⟩, .slice none 0 0]] X' (RetB X' (decide (o = .nil)))) := fun X' hb => by
  rw [← ev]
  exact equalO o .nil p (.slice none 0 0) X' S (hS.later hb.size) (h.below hS hb) rfl
 have CN : Hid (∀ X', Calls Tryz.prog 30 #[] X' fun e w' => e = .returned (.agg #[.int .i64 2, .string ⟨#[]⟩, .string ⟨#[]⟩, .string (BA lispB), .string (BA [110, 105, 108]), .string ⟨#[]⟩, .slice none 0 0]) ∧ Below X'.heap.size X' w') := fun X' => (nilO X' NoB).mono fun _ _ ⟨p, h1, h2, h3⟩ => by
  have e : p = .slice none 0 0 := h2
  subst e
  exact ⟨h1, h3⟩
 rw [ev]
 generalize decide (o = Ob.nil) = b at CE ⊢
 clear ev e h
 have hb0 : Below w.heap.size w (w.alloc (.cells #[x0, x1, x2, x3, x4, x5, p] 36)) := Below.alloc (Below.refl _ _) (Nat.le_refl _) _
 have hg0 := heap_alloc_new w (.cells #[x0, x1, x2, x3, x4, x5, p] 36)
 go_enter Tryz.func39, Tryz.ntmps39
 go_wp2_with fail
 generalize w.alloc (.cells #[x0, x1, x2, x3, x4, x5, p] 36) = W at hb0 hg0 ⊢
 have FC : Hid (∀ X', Below W.heap.size W X' → X'.cell? ⟨w.heap.size, 0, none⟩ = some x0 ∧ X'.cell? ⟨w.heap.size, 1, none⟩ = some x1 ∧ X'.cell? ⟨w.heap.size, 2, none⟩ = some x2 ∧ X'.cell? ⟨w.heap.size, 3, none⟩ = some x3 ∧ X'.cell? ⟨w.heap.size, 4, none⟩ = some x4 ∧ X'.cell? ⟨w.heap.size, 5, none⟩ = some x5 ∧ X'.cell? ⟨w.heap.size, 6, none⟩ = some p) := fun X' h => (row7 ((h.block _ (lt_of_heap hg0)).trans hg0)).1
 have HB : Hid (∀ X', Below W.heap.size W X' → Below w.heap.size w X') := fun X' h => hb0.trans (h.mono hb0.size)
 obtain ⟨m0, m1, m2, m3, m4, m5, m6⟩ := FC.out W (Below.refl _ _)
 have hB0 : Below W.heap.size W W.drew := (Below.refl _ _).drew
 clear hb0 hg0
 go_region_held3 (fun X' => X'.cell? ⟨w.heap.size, 0, none⟩ = some x0 ∧ X'.cell? ⟨w.heap.size, 1, none⟩ = some x1 ∧ X'.cell? ⟨w.heap.size, 2, none⟩ = some x2 ∧ X'.cell? ⟨w.heap.size, 3, none⟩ = some x3 ∧ X'.cell? ⟨w.heap.size, 4, none⟩ = some x4 ∧ X'.cell? ⟨w.heap.size, 5, none⟩ = some x5 ∧ X'.cell? ⟨w.heap.size, 6, none⟩ = some p) (first | exact FC.out _ ‹Below W.heap.size W _› | go_keep)
  (first
    | (go_at_call 30; refine (CN.out _).mono ?_; rintro e u1 ⟨rfl, hb1⟩; have hB1 := chain2 ‹Below W.heap.size W _› hb1 (Nat.le_refl _); clear hb1)
    | (go_at_call 22; refine (CE.out _ (HB.out _ ‹Below W.heap.size W _›)).mono ?_; rintro e u2 ⟨rfl, hb2⟩; have hB2 := chain2 ‹Below W.heap.size W _› hb2 (Nat.le_refl _); clear hb2))
 all_goals go_wp2
 all_goals go_ret
 all_goals exact ⟨rfl, HB.out _ ‹Below W.heap.size W _›⟩

set_option maxHeartbeats 4000000 in
set_option maxRecDepth 100000 in
theorem fewAllO (l : List Rw) (A : Option Addr) (c : Nat) (m : Int) (w : World) (S : Nat → Prop) (hS : In S w) (hc : l.length ≤ c) (hcm : c ≤ maxLen) (hm : 0 ≤ m) (hm' : m ≤ 1000)
 (hA : 0 < l.length → ∃ b o, A = some ⟨b, o, none⟩ ∧ S b ∧ RawsAt w S b o l) :
 Calls Tryz.prog 18 #[.slice A l.length c, .int .i64 m] w (fun e w' => ∃ t, e = .returned (.bool t) ∧ Below w.heap.size w w' ∧ (t = true → l.length ≤ 8 ∧ ∀ i (hi : i < l.length), few l[i] m = true)) := by
 have HS := qh9 hS
 have HA := qh9 hA
 clear hS hA
 have HF : Hid (∀ i (hi : i < l.length) cs w', RawAt w' S l[i] cs → In S w' → Calls Tryz.prog 23 #[.agg cs.toArray, .int .i64 m] w' (fun e w'' => e = .returned (.bool (few l[i] m)) ∧ Below w'.heap.size w' w'')) := fun i hi cs w' h hs => fewO l[i] cs m w' S hs h hm hm'
 have HE1 : Hid (∀ w', Below w.heap.size w w' → ∃ t, Ending.returned (.bool false) = .returned (.bool t) ∧ Below w.heap.size w w' ∧ (t = true → l.length ≤ 8 ∧ ∀ i (hi : i < l.length), few l[i] m = true)) := fun w' h => ⟨false, rfl, h, fun h => by cases h⟩
 have HE2 : Hid (∀ w', Below w.heap.size w w' → l.length ≤ 8 → (∀ i (hi : i < l.length), few l[i] m = true) → ∃ t, Ending.returned (.bool true) = .returned (.bool t) ∧ Below w.heap.size w w' ∧ (t = true → l.length ≤ 8 ∧ ∀ i (hi : i < l.length), few l[i] m = true)) := fun w' h h1 h2 => ⟨true, rfl, h, fun _ => ⟨h1, h2⟩⟩
 generalize hP : (fun (e : Ending) (w' : World) => ∃ t, e = .returned (.bool t) ∧ Below w.heap.size w w' ∧ (t = true → l.length ≤ 8 ∧ ∀ i (hi : i < l.length), few l[i] m = true)) = P
 have E1 : Hid (∀ w', Below w.heap.size w w' → P (.returned (.bool false)) w') := by subst hP; exact HE1
 have E2 : Hid (∀ w', Below w.heap.size w w' → l.length ≤ 8 → (∀ i (hi : i < l.length), few l[i] m = true) → P (.returned (.bool true)) w') := by subst hP; exact HE2
 clear hP HE1 HE2
 obtain ⟨L, hL⟩ : ∃ L, l.length = L := ⟨_, rfl⟩
 have HL := qh9 hL
 rw [hL] at hc ⊢
 clear hL
 unfold maxLen at hcm
 by_cases hbig : 8 < L
 · go_enter Tryz.func18, Tryz.ntmps18
   go_wp2
   exact E1.out _ (Below.refl _ _)
 · have hL8 : L ≤ 8 := by omega
   clear hbig
   go_enter Tryz.func18, Tryz.ntmps18
   go_wp2_with fail
   have h0 : Hid (∀ j (hj : j < l.length), j < 0 → few l[j] m = true) := fun j _ h => absurd h (Nat.not_lt_zero _)
   go_loopw [5] (fun v wr => ∃ i : Nat, i ≤ L ∧ v = .int .i64 (i : Int) ∧ Hid (Below w.heap.size w wr) ∧ Hid (∀ j (hj : j < l.length), j < i → few l[j] m = true)) (fun v _ => L - (intOf v).toNat)
   case atStart => exact ⟨0, Nat.zero_le _, rfl, Below.refl _ _, h0⟩
   case round =>
    clear h0
    obtain ⟨i, hiL, rfl, hb, hall⟩ := hrel
    obtain ⟨wo, rfl⟩ : ∃ wo : World, wo = wr := ⟨_, rfl⟩
    by_cases hlt : i < L
    · have hil : i < l.length := by rw [HL.out]; exact hlt
      obtain ⟨b, o, rfl, hbS, hrs⟩ := HA.out (by omega)
      obtain ⟨cs, hcs, hcell⟩ := hrs.get hil
      have hcs' := hcs.below HS.out hb.out
      have ha0 : b < w.heap.size := HS.out b hbS
      obtain ⟨z0, z1, z2, z3, rfl⟩ : ∃ z0 z1 z2 z3, cs = [z0, z1, z2, z3] := by
       generalize l[i] = r at hcs
       cases r with
       | mk k n s l => unfold RawAt at hcs; obtain ⟨A, c, e, _⟩ := hcs; exact ⟨_, _, _, _, e⟩
      have l0 := (hb.out.cell (p := ⟨b, o + i * 4 + 0, none⟩) ha0).trans (hcell 0 z0 rfl)
      have l1 := (hb.out.cell (p := ⟨b, o + i * 4 + 1, none⟩) ha0).trans (hcell 1 z1 rfl)
      have l2 := (hb.out.cell (p := ⟨b, o + i * 4 + 2, none⟩) ha0).trans (hcell 2 z2 rfl)
      have l3 := (hb.out.cell (p := ⟨b, o + i * 4 + 3, none⟩) ha0).trans (hcell 3 z3 rfl)
      rw [Nat.add_zero] at l0
      have call := qh9 (HF.out i hil [z0, z1, z2, z3] wo hcs' (HS.out.later hb.out.size))
      have hnext : Hid (few l[i] m = true → ∀ j (hj : j < l.length), j < i + 1 → few l[j] m = true) := fun hf j hj hji => by
       by_cases e : j = i
       · subst e; exact hf
       · exact hall.out j hj (by omega)
      clear hcell hcs hcs' hrs
      generalize few l[i] m = f at call hnext
      go_wp2_with fail
      refine call.out.mono ?_
      rintro e w3 ⟨rfl, hb3⟩
      have hb4 := qc9 hb hb3
      clear l0 l1 l2 l3 hb3 call hb hall
      cases f with
      | false =>
       clear hnext
       go_wp2
       exact E1.out _ hb4.out
      | true =>
       have hn2 := qh9 (hnext.out (by simp))
       clear hnext
       go_wp2
       go_roundw
       case rel => exact ⟨i + 1, by omega, by go_num, hb4, hn2⟩
       case measure => simp [intOf]; omega
    · have hn : ¬ (i : Int) < L := by omega
      have HR := qh9 (E2.out wo hb.out (by rw [HL.out]; exact hL8) (fun j hj => hall.out j hj (by have := HL.out; omega)))
      clear hb hall hlt
      go_wp2
      exact HR.out
set_option maxHeartbeats 16000000 in
set_option maxRecDepth 100000 in
theorem guardR1 (fp fn : ByteArray) (i : Nat) (hi : i < 25) (har : arB.getD i 0 = 1) (hfn : nmS i = fn) (x : Ob) (p : Value) (b o c : Nat) (w : World) (CF : Hid (∀ W, Calls Tryz.prog 16 #[.agg #[.string fp, .string fn]] W (RetIB W 1 true))) (hc : 1 ≤ c) (hx : Ad w x b o p) (h64 : IntO x) : Calls Tryz.prog 25 #[.agg #[.string fp, .string fn], .slice (some ⟨b, o, none⟩) 1 c] w (RetB w (guardV i [x])) := by
 have hcase : i = 3 ∨ i = 4 ∨ i = 5 ∨ i = 6 ∨ i = 7 ∨ i = 8 ∨ i = 9 ∨ i = 12 ∨ i = 13 ∨ i = 15 ∨ i = 16 ∨ i = 17 ∨ i = 18 ∨ i = 19 ∨ i = 22 ∨ i = 24 := by
  rcases (show i = 0 ∨ i = 1 ∨ i = 2 ∨ i = 3 ∨ i = 4 ∨ i = 5 ∨ i = 6 ∨ i = 7 ∨ i = 8 ∨ i = 9 ∨ i = 10 ∨ i = 11 ∨ i = 12 ∨ i = 13 ∨ i = 14 ∨ i = 15 ∨ i = 16 ∨ i = 17 ∨ i = 18 ∨ i = 19 ∨ i = 20 ∨ i = 21 ∨ i = 22 ∨ i = 23 ∨ i = 24 by omega) with rfl | rfl | rfl | rfl | rfl | rfl | rfl | rfl | rfl | rfl | rfl | rfl | rfl | rfl | rfl | rfl | rfl | rfl | rfl | rfl | rfl | rfl | rfl | rfl | rfl
  all_goals first
   | exact absurd har (by decide)
   | simp
 obtain ⟨l, hl⟩ : ∃ l, l = [x] := ⟨_, rfl⟩
 have hlen : l.length = 1 := by rw [hl]; rfl
 have HA : Hid (∀ j (hj : j < l.length), ∃ s, Ad w l[j] b (o + j * 7) s) := by
  subst hl
  intro j hj
  match j, hj with
  | 0, _ => exact ⟨p, by rw [Nat.zero_mul, Nat.add_zero]; exact hx⟩
  | k + 1, h => exact absurd h (by simp)
 have HL := qh9 hl
 have HLE := qh9 hlen
 have HX := qh9 hx
 have H64 := qh9 h64
 clear hl hlen hx har hi h64
 have S0 := Sy.SB.new w (.string fp) (.string fn)
 have B0 : Below w.heap.size w (w.alloc (.cells #[.string fp, .string fn] 23)) := Below.alloc (Below.refl _ _) (Nat.le_refl _) _
 go_enter Tryz.func25, Tryz.ntmps25
 go_wp2_with fail
 generalize w.alloc (.cells #[.string fp, .string fn] 23) = W at S0 B0 ⊢
 refine (CF.out W).mono ?_
 rintro e w1 ⟨rfl, hb⟩
 have HF : Hid (Below w.heap.size w w1 ∧ Sy.SB w1 w.heap.size (.string fp) (.string fn)) := ⟨chain2 B0 hb (Nat.le_refl _), S0.keep hb⟩
 clear S0 B0 hb CF
 go_wp2_with fail
 go_loopw [7, 8, 9] (fun u s v wr => ∃ (j : Nat) (nb sb : Bool), j ≤ 1 ∧ u = .bool nb ∧ s = .bool sb ∧ v = .int .i64 (j : Int) ∧ Hid (nb = (l.take j).all Ob.isNumB) ∧ Hid (sb = (l.take j).all Ob.isStrB) ∧ Hid (Below w.heap.size w wr ∧ Sy.SB wr w.heap.size (.string fp) (.string fn))) (fun _ _ v _ => 1 - (intOf v).toNat)
 case atStart => exact ⟨0, true, true, by omega, rfl, rfl, rfl, by show _ = _; rw [List.take_zero]; rfl, by show _ = _; rw [List.take_zero]; rfl, HF⟩
 case round =>
  obtain ⟨j, nb, sb, hj, rfl, rfl, rfl, HN, HS2, hE⟩ := hrel
  obtain ⟨wo, rfl⟩ : ∃ wo : World, wo = wr := ⟨_, rfl⟩
  clear HF
  by_cases hjL : j < 1
  · have hil : j < l.length := by rw [HLE.out]; exact hjL
    obtain ⟨s, hs⟩ := HA.out j hil
    obtain ⟨k0, _, _, _, _, _, _⟩ := (hs.below hE.out.1).k
    have HK1 : Hid ((l[j].kd == 1) = l[j].isNumB) := kd_num _
    have HK3 : Hid ((l[j].kd == 3) = l[j].isStrB) := kd_str _
    have HT1 := qh9 (take_all hil Ob.isNumB)
    have HT3 := qh9 (take_all hil Ob.isStrB)
    clear hs
    generalize l[j].kd = k at *
    have hj0 : (0 : Int) ≤ (j : Int) := by omega
    have hj1 : (j : Int) < 1 := by omega
    cases nb <;> cases sb
    all_goals go_wp2_with fail
    all_goals go_roundw
    all_goals first
     | exact ⟨j + 1, _, _, by omega, rfl, rfl, by go_num, by show _ = _; rw [HT1.out, ← HN.out]; first | rfl | exact HK1.out, by show _ = _; rw [HT3.out, ← HS2.out]; first | rfl | exact HK3.out, hE.out⟩
     | (simp [intOf]; omega)
  · have hjE : j = 1 := by omega
    subst hjE
    have e : l.take 1 = l := List.take_of_length_le (by rw [HLE.out]; omega)
    rw [e] at HN HS2
    have HB := qh9 hE.out.1
    have sn := hE.out.2.c1
    clear e hE HA
    go_upto_region 10 with fail
    rcases hcase with rfl | rfl | rfl | rfl | rfl | rfl | rfl | rfl | rfl | rfl | rfl | rfl | rfl | rfl | rfl | rfl
    · have hfn' : fn = ⟨#[99, 97, 114]⟩ := hfn.symm
      subst hfn'
      clear hfn
      have CN : Hid (∀ W, Below w.heap.size w W → Calls Tryz.prog 39 #[.agg #[.int .i64 x.kd, .string x.f1, .string x.f2, .string x.f3, .string x.f4, .string x.f5, p]] W (RetB W (decide (x = .nil)))) := fun W h => by
       rw [← vOK]; exact isNilR x p W (Has W) (In.has W) (HX.out.below h).hd
      obtain ⟨m0, m1, m2, m3, m4, m5, m6⟩ := (HX.out.below HB.out).k
      have HQ : Hid (guardV 3 [x] = ((x.kd == 4) || decide (x = .nil))) := by rw [kd_cons]; rfl
      generalize decide (x = .nil) = v at CN HQ
      generalize x.kd = k at *
      generalize x.f1 = s1 at *
      generalize x.f2 = s2 at *
      generalize x.f3 = s3 at *
      generalize x.f4 = s4 at *
      generalize x.f5 = s5 at *
      by_cases hk2 : k = 4
      · subst hk2
        go_wp2
        go_ret
        exact ⟨by rw [HQ.out]; rfl, HB.out⟩
      · go_wp2_with fail
        refine (CN.out _ HB.out).mono ?_
        rintro e w9 ⟨rfl, hb⟩
        go_wp2
        go_ret
        exact ⟨by rw [HQ.out]; rfl, chain2 HB.out hb (Nat.le_refl _)⟩
    · have hfn' : fn = ⟨#[99, 100, 114]⟩ := hfn.symm
      subst hfn'
      clear hfn
      have CN : Hid (∀ W, Below w.heap.size w W → Calls Tryz.prog 39 #[.agg #[.int .i64 x.kd, .string x.f1, .string x.f2, .string x.f3, .string x.f4, .string x.f5, p]] W (RetB W (decide (x = .nil)))) := fun W h => by
       rw [← vOK]; exact isNilR x p W (Has W) (In.has W) (HX.out.below h).hd
      obtain ⟨m0, m1, m2, m3, m4, m5, m6⟩ := (HX.out.below HB.out).k
      have HQ : Hid (guardV 4 [x] = ((x.kd == 4) || decide (x = .nil))) := by rw [kd_cons]; rfl
      generalize decide (x = .nil) = v at CN HQ
      generalize x.kd = k at *
      generalize x.f1 = s1 at *
      generalize x.f2 = s2 at *
      generalize x.f3 = s3 at *
      generalize x.f4 = s4 at *
      generalize x.f5 = s5 at *
      by_cases hk2 : k = 4
      · subst hk2
        go_wp2
        go_ret
        exact ⟨by rw [HQ.out]; rfl, HB.out⟩
      · go_wp2_with fail
        refine (CN.out _ HB.out).mono ?_
        rintro e w9 ⟨rfl, hb⟩
        go_wp2
        go_ret
        exact ⟨by rw [HQ.out]; rfl, chain2 HB.out hb (Nat.le_refl _)⟩
    · have hfn' : fn = ⟨#[99, 111, 110, 115, 112]⟩ := hfn.symm
      subst hfn'
      clear hfn
      go_wp2
      go_ret
      exact ⟨rfl, HB.out⟩
    · have hfn' : fn = ⟨#[115, 121, 109, 98, 111, 108, 112]⟩ := hfn.symm
      subst hfn'
      clear hfn
      go_wp2
      go_ret
      exact ⟨rfl, HB.out⟩
    · have hfn' : fn = ⟨#[115, 116, 114, 105, 110, 103, 112]⟩ := hfn.symm
      subst hfn'
      clear hfn
      go_wp2
      go_ret
      exact ⟨rfl, HB.out⟩
    · have hfn' : fn = ⟨#[114, 97, 116, 105, 111, 110, 97, 108, 112]⟩ := hfn.symm
      subst hfn'
      clear hfn
      go_wp2
      go_ret
      exact ⟨rfl, HB.out⟩
    · have hfn' : fn = ⟨#[105, 110, 116, 101, 103, 101, 114, 112]⟩ := hfn.symm
      subst hfn'
      clear hfn
      go_wp2
      go_ret
      exact ⟨rfl, HB.out⟩
    · have hfn' : fn = ⟨#[117, 110, 97, 114, 121, 45, 45]⟩ := hfn.symm
      subst hfn'
      clear hfn
      go_wp2
      go_ret
      refine ⟨?_, HB.out⟩
      show Ending.returned (.bool nb) = .returned (.bool x.isNumB)
      rw [HN.out, HL.out]
      simp
    · have hfn' : fn = ⟨#[117, 110, 97, 114, 121, 45, 47]⟩ := hfn.symm
      subst hfn'
      clear hfn
      have HNx : Hid (nb = x.isNumB) := by show _ = _; rw [HN.out, HL.out]; simp
      have HQ : Hid (guardV 13 [x] = (x.isNumB && decide (x.fix ≠ 0))) := rfl
      cases nb with
      | false =>
       go_wp2
       go_ret
       exact ⟨by rw [HQ.out, ← HNx.out]; rfl, HB.out⟩
      | true =>
       obtain ⟨m0, m1, m2, m3, m4, m5, m6⟩ := (HX.out.below HB.out).k
       clear m0 m2 m3 m4 m5 m6
       have HR : Hid ((!(x.f1.toList == [48])) = decide (x.fix ≠ 0)) := by
        cases x with
        | num q =>
         show (!((nt q).toList == [48])) = decide (q ≠ 0)
         rw [nt_lit q 0 [48] rfl]
         by_cases h0 : q = 0
         · subst h0; rfl
         · have h1 : q.num ≠ 0 := fun h => h0 (Rat.num_eq_zero.1 h)
           rw [decide_eq_false h1, decide_eq_true h0]; rfl
        | _ => have := HNx.out; simp [Ob.isNumB] at this
       generalize x.f1 = s1 at *
       go_wp2
       go_ret
       exact ⟨by rw [HQ.out, ← HNx.out, Bool.true_and, ← HR.out]; rfl, HB.out⟩
    · have hfn' : fn = ⟨#[110, 117, 109, 101, 114, 97, 116, 111, 114]⟩ := hfn.symm
      subst hfn'
      clear hfn
      go_wp2
      go_ret
      refine ⟨?_, HB.out⟩
      show Ending.returned (.bool nb) = .returned (.bool x.isNumB)
      rw [HN.out, HL.out]
      simp
    · have hfn' : fn = ⟨#[100, 101, 110, 111, 109, 105, 110, 97, 116, 111, 114]⟩ := hfn.symm
      subst hfn'
      clear hfn
      go_wp2
      go_ret
      refine ⟨?_, HB.out⟩
      show Ending.returned (.bool nb) = .returned (.bool x.isNumB)
      rw [HN.out, HL.out]
      simp
    · have hfn' : fn = ⟨#[102, 108, 111, 111, 114]⟩ := hfn.symm
      subst hfn'
      clear hfn
      go_wp2
      go_ret
      refine ⟨?_, HB.out⟩
      show Ending.returned (.bool nb) = .returned (.bool x.isNumB)
      rw [HN.out, HL.out]
      simp
    · have hfn' : fn = ⟨#[115, 121, 109, 98, 111, 108, 45, 110, 97, 109, 101]⟩ := hfn.symm
      subst hfn'
      clear hfn
      obtain ⟨m0, m1, m2, m3, m4, m5, m6⟩ := (HX.out.below HB.out).k
      clear m1 m2 m3 m4 m5 m6
      have HQ : Hid (guardV 18 [x] = (x.kd == 2)) := by show _ = _; rw [kd_sym]; rfl
      generalize x.kd = k at *
      go_wp2
      go_ret
      exact ⟨by first | (rw [HQ.out]; done) | (rw [HQ.out]; rfl), HB.out⟩
    · have hfn' : fn = ⟨#[115, 121, 109, 98, 111, 108, 45, 112, 97, 99, 107, 97, 103, 101, 45, 110, 97, 109, 101]⟩ := hfn.symm
      subst hfn'
      clear hfn
      obtain ⟨m0, m1, m2, m3, m4, m5, m6⟩ := (HX.out.below HB.out).k
      clear m1 m2 m3 m4 m5 m6
      have HQ : Hid (guardV 19 [x] = (x.kd == 2)) := by show _ = _; rw [kd_sym]; rfl
      generalize x.kd = k at *
      go_wp2
      go_ret
      exact ⟨by first | (rw [HQ.out]; done) | (rw [HQ.out]; rfl), HB.out⟩
    · have hfn' : fn = ⟨#[115, 116, 114, 105, 110, 103, 45, 108, 101, 110, 103, 116, 104]⟩ := hfn.symm
      subst hfn'
      clear hfn
      go_wp2
      go_ret
      refine ⟨?_, HB.out⟩
      show Ending.returned (.bool sb) = .returned (.bool x.isStrB)
      rw [HS2.out, HL.out]
      simp
    · have hfn' : fn = ⟨#[98, 121, 116, 101, 45, 115, 116, 114, 105, 110, 103]⟩ := hfn.symm
      subst hfn'
      clear hfn
      have CO : Hid (∀ W, Below w.heap.size w W → Calls Tryz.prog 50 #[vO x p] W (RetUB W (((idxV 256 x).getD 0 : Nat) : Int) (idxV 256 x).isSome)) := fun W h => octetR x p W (HX.out.below h).hd H64.out
      have HQ : Hid (guardV 24 [x] = (idxV 256 x).isSome) := rfl
      generalize ((idxV 256 x).getD 0 : Nat) = k1 at *
      generalize (idxV 256 x).isSome = k2 at *
      have HX1 := qh9 (HX.out.below HB.out)
      go_wp2_with ((with_reducible refine loadA ?_ ?_ HX1.out ?_); exact ⟨_, rfl, rfl⟩; rfl)
      refine (CO.out _ HB.out).mono ?_
      rintro e w9 ⟨rfl, hb⟩
      go_wp2
      go_ret
      exact ⟨by first | (rw [HQ.out]; done) | (rw [HQ.out]; rfl), chain2 HB.out hb (Nat.le_refl _)⟩
set_option maxHeartbeats 16000000 in
set_option maxRecDepth 100000 in
theorem guardR2 (fp fn : ByteArray) (i : Nat) (hi : i < 25) (har : arB.getD i 0 = 2) (hfn : nmS i = fn) (x y : Ob) (p q : Value) (b o c : Nat) (w : World) (CF : Hid (∀ W, Calls Tryz.prog 16 #[.agg #[.string fp, .string fn]] W (RetIB W 2 true))) (hc : 2 ≤ c) (hx : Ad w x b o p) (hy : Ad w y b (o + 7) q) (h64 : IntO y) (hln : x.strV.length ≤ 2000) : Calls Tryz.prog 25 #[.agg #[.string fp, .string fn], .slice (some ⟨b, o, none⟩) 2 c] w (RetB w (guardV i [x, y])) := by
 have hcase : i = 1 ∨ i = 2 ∨ i = 10 ∨ i = 11 ∨ i = 14 ∨ i = 20 ∨ i = 21 ∨ i = 23 := by
  rcases (show i = 0 ∨ i = 1 ∨ i = 2 ∨ i = 3 ∨ i = 4 ∨ i = 5 ∨ i = 6 ∨ i = 7 ∨ i = 8 ∨ i = 9 ∨ i = 10 ∨ i = 11 ∨ i = 12 ∨ i = 13 ∨ i = 14 ∨ i = 15 ∨ i = 16 ∨ i = 17 ∨ i = 18 ∨ i = 19 ∨ i = 20 ∨ i = 21 ∨ i = 22 ∨ i = 23 ∨ i = 24 by omega) with rfl | rfl | rfl | rfl | rfl | rfl | rfl | rfl | rfl | rfl | rfl | rfl | rfl | rfl | rfl | rfl | rfl | rfl | rfl | rfl | rfl | rfl | rfl | rfl | rfl
  all_goals first
   | exact absurd har (by decide)
   | simp
 obtain ⟨l, hl⟩ : ∃ l, l = [x, y] := ⟨_, rfl⟩
 have hlen : l.length = 2 := by rw [hl]; rfl
 have HA : Hid (∀ j (hj : j < l.length), ∃ s, Ad w l[j] b (o + j * 7) s) := by
  subst hl
  intro j hj
  match j, hj with
  | 0, _ => exact ⟨p, by rw [Nat.zero_mul, Nat.add_zero]; exact hx⟩
  | 1, _ => exact ⟨q, by rw [Nat.one_mul]; exact hy⟩
  | k + 2, h => exact absurd h (by simp)
 have HL := qh9 hl
 have HLE := qh9 hlen
 have HX := qh9 hx
 have HY := qh9 hy
 have H64 := qh9 h64
 have HLN := qh9 hln
 clear hl hlen hx har hi hy hln h64
 have S0 := Sy.SB.new w (.string fp) (.string fn)
 have B0 : Below w.heap.size w (w.alloc (.cells #[.string fp, .string fn] 23)) := Below.alloc (Below.refl _ _) (Nat.le_refl _) _
 go_enter Tryz.func25, Tryz.ntmps25
 go_wp2_with fail
 generalize w.alloc (.cells #[.string fp, .string fn] 23) = W at S0 B0 ⊢
 refine (CF.out W).mono ?_
 rintro e w1 ⟨rfl, hb⟩
 have HF : Hid (Below w.heap.size w w1 ∧ Sy.SB w1 w.heap.size (.string fp) (.string fn)) := ⟨chain2 B0 hb (Nat.le_refl _), S0.keep hb⟩
 clear S0 B0 hb CF
 go_wp2_with fail
 go_loopw [7, 8, 9] (fun u s v wr => ∃ (j : Nat) (nb sb : Bool), j ≤ 2 ∧ u = .bool nb ∧ s = .bool sb ∧ v = .int .i64 (j : Int) ∧ Hid (nb = (l.take j).all Ob.isNumB) ∧ Hid (sb = (l.take j).all Ob.isStrB) ∧ Hid (Below w.heap.size w wr ∧ Sy.SB wr w.heap.size (.string fp) (.string fn))) (fun _ _ v _ => 2 - (intOf v).toNat)
 case atStart => exact ⟨0, true, true, by omega, rfl, rfl, rfl, by show _ = _; rw [List.take_zero]; rfl, by show _ = _; rw [List.take_zero]; rfl, HF⟩
 case round =>
  obtain ⟨j, nb, sb, hj, rfl, rfl, rfl, HN, HS2, hE⟩ := hrel
  obtain ⟨wo, rfl⟩ : ∃ wo : World, wo = wr := ⟨_, rfl⟩
  clear HF
  by_cases hjL : j < 2
  · have hil : j < l.length := by rw [HLE.out]; exact hjL
    obtain ⟨s, hs⟩ := HA.out j hil
    obtain ⟨k0, _, _, _, _, _, _⟩ := (hs.below hE.out.1).k
    have HK1 : Hid ((l[j].kd == 1) = l[j].isNumB) := kd_num _
    have HK3 : Hid ((l[j].kd == 3) = l[j].isStrB) := kd_str _
    have HT1 := qh9 (take_all hil Ob.isNumB)
    have HT3 := qh9 (take_all hil Ob.isStrB)
    clear hs
    generalize l[j].kd = k at *
    have hj0 : (0 : Int) ≤ (j : Int) := by omega
    have hj1 : (j : Int) < 2 := by omega
    cases nb <;> cases sb
    all_goals go_wp2_with fail
    all_goals go_roundw
    all_goals first
     | exact ⟨j + 1, _, _, by omega, rfl, rfl, by go_num, by show _ = _; rw [HT1.out, ← HN.out]; first | rfl | exact HK1.out, by show _ = _; rw [HT3.out, ← HS2.out]; first | rfl | exact HK3.out, hE.out⟩
     | (simp [intOf]; omega)
  · have hjE : j = 2 := by omega
    subst hjE
    have e : l.take 2 = l := List.take_of_length_le (by rw [HLE.out]; omega)
    rw [e] at HN HS2
    have HB := qh9 hE.out.1
    have sn := hE.out.2.c1
    clear e hE HA
    go_upto_region 10 with fail
    rcases hcase with rfl | rfl | rfl | rfl | rfl | rfl | rfl | rfl
    · have hfn' : fn = ⟨#[101, 113, 117, 97, 108]⟩ := hfn.symm
      subst hfn'
      clear hfn
      go_wp2
      go_ret
      exact ⟨rfl, HB.out⟩
    · have hfn' : fn = ⟨#[99, 111, 110, 115]⟩ := hfn.symm
      subst hfn'
      clear hfn
      go_wp2
      go_ret
      exact ⟨rfl, HB.out⟩
    · have hfn' : fn = ⟨#[98, 105, 110, 97, 114, 121, 45, 43]⟩ := hfn.symm
      subst hfn'
      clear hfn
      go_wp2
      go_ret
      refine ⟨?_, HB.out⟩
      show Ending.returned (.bool nb) = .returned (.bool (x.isNumB && y.isNumB))
      rw [HN.out, HL.out]
      simp
    · have hfn' : fn = ⟨#[98, 105, 110, 97, 114, 121, 45, 42]⟩ := hfn.symm
      subst hfn'
      clear hfn
      go_wp2
      go_ret
      refine ⟨?_, HB.out⟩
      show Ending.returned (.bool nb) = .returned (.bool (x.isNumB && y.isNumB))
      rw [HN.out, HL.out]
      simp
    · have hfn' : fn = ⟨#[60]⟩ := hfn.symm
      subst hfn'
      clear hfn
      go_wp2
      go_ret
      refine ⟨?_, HB.out⟩
      show Ending.returned (.bool nb) = .returned (.bool (x.isNumB && y.isNumB))
      rw [HN.out, HL.out]
      simp
    · have hfn' : fn = ⟨#[105, 110, 116, 101, 114, 110]⟩ := hfn.symm
      subst hfn'
      clear hfn
      go_wp2
      go_ret
      refine ⟨?_, HB.out⟩
      show Ending.returned (.bool sb) = .returned (.bool (x.isStrB && y.isStrB))
      rw [HS2.out, HL.out]
      simp
    · have hfn' : fn = ⟨#[115, 116, 114, 105, 110, 103, 45, 97, 112, 112, 101, 110, 100]⟩ := hfn.symm
      subst hfn'
      clear hfn
      go_wp2
      go_ret
      refine ⟨?_, HB.out⟩
      show Ending.returned (.bool sb) = .returned (.bool (x.isStrB && y.isStrB))
      rw [HS2.out, HL.out]
      simp
    · have hfn' : fn = ⟨#[115, 116, 114, 105, 110, 103, 45, 98, 121, 116, 101]⟩ := hfn.symm
      subst hfn'
      clear hfn
      obtain ⟨a0, a1, a2, a3, a4, a5, ea⟩ := cells7 x p
      obtain ⟨b0, b1, b2, b3, b4, b5, eb⟩ := cells7 y q
      have CX : Hid (∀ W, Below w.heap.size w W → Calls Tryz.prog 49 #[.agg #[a0, a1, a2, a3, a4, a5, p], .agg #[b0, b1, b2, b3, b4, b5, q]] W (RetIB W (((idxV x.strV.length y).getD 0 : Nat) : Int) (idxV x.strV.length y).isSome)) := fun W h => by
       rw [← vO_cells ea, ← vO_cells eb]; exact indexR x y p q W (HX.out.below h).hd (HY.out.below h).hd HLN.out H64.out
      have HQ : Hid (guardV 23 [x, y] = (idxV x.strV.length y).isSome) := rfl
      have FB : Hid (∀ W, Below w.heap.size w W → (W.cell? ⟨b, o, none⟩ = some a0 ∧ W.cell? ⟨b, o + 1, none⟩ = some a1 ∧ W.cell? ⟨b, o + 2, none⟩ = some a2 ∧ W.cell? ⟨b, o + 3, none⟩ = some a3 ∧ W.cell? ⟨b, o + 4, none⟩ = some a4 ∧ W.cell? ⟨b, o + 5, none⟩ = some a5 ∧ W.cell? ⟨b, o + 6, none⟩ = some p) ∧ W.cell? ⟨b, o + 7, none⟩ = some b0 ∧ W.cell? ⟨b, o + 8, none⟩ = some b1 ∧ W.cell? ⟨b, o + 9, none⟩ = some b2 ∧ W.cell? ⟨b, o + 10, none⟩ = some b3 ∧ W.cell? ⟨b, o + 11, none⟩ = some b4 ∧ W.cell? ⟨b, o + 12, none⟩ = some b5 ∧ W.cell? ⟨b, o + 13, none⟩ = some q) := fun W hb => by
       have h := (HX.out.below hb).2.1
       rw [ea] at h
       have g := (HY.out.below hb).2.1
       rw [eb] at g
       exact ⟨⟨h 0 _ rfl, h 1 _ rfl, h 2 _ rfl, h 3 _ rfl, h 4 _ rfl, h 5 _ rfl, h 6 _ rfl⟩, g 0 _ rfl, g 1 _ rfl, g 2 _ rfl, g 3 _ rfl, g 4 _ rfl, g 5 _ rfl, g 6 _ rfl⟩
      generalize ((idxV x.strV.length y).getD 0 : Nat) = k1 at *
      generalize (idxV x.strV.length y).isSome = k2 at *
      have hB0 : Below w.heap.size w wo.drew := HB.out.drew
      obtain ⟨⟨l0, l1, l2, l3, l4, l5, l6⟩, n0, n1, n2, n3, n4, n5, n6⟩ := FB.out _ hB0
      go_wp2_with fail
      go_region_with (first
       | (go_at_call 49; refine (CX.out _ ‹Below w.heap.size w _›).mono ?_; rintro e w3 ⟨rfl, hb3⟩; have hB3 := chain2 ‹Below w.heap.size w _› hb3 (Nat.le_refl _)))
      all_goals go_wp2
      all_goals go_ret
      all_goals exact ⟨by first | (rw [HQ.out]; done) | (rw [HQ.out]; rfl), ‹Below w.heap.size w _›⟩
set_option maxHeartbeats 16000000 in
set_option maxRecDepth 100000 in
theorem guardR3 (fp fn : ByteArray) (i : Nat) (hi : i < 25) (har : arB.getD i 0 = 3) (hfn : nmS i = fn) (x y z : Ob) (p q r : Value) (b o c : Nat) (w : World) (CF : Hid (∀ W, Calls Tryz.prog 16 #[.agg #[.string fp, .string fn]] W (RetIB W 3 true))) (hc : 3 ≤ c) (hx : Ad w x b o p) (hy : Ad w y b (o + 7) q) (hz : Ad w z b (o + 14) r) : Calls Tryz.prog 25 #[.agg #[.string fp, .string fn], .slice (some ⟨b, o, none⟩) 3 c] w (RetB w (guardV i [x, y, z])) := by
 have hcase : i = 0 := by
  rcases (show i = 0 ∨ i = 1 ∨ i = 2 ∨ i = 3 ∨ i = 4 ∨ i = 5 ∨ i = 6 ∨ i = 7 ∨ i = 8 ∨ i = 9 ∨ i = 10 ∨ i = 11 ∨ i = 12 ∨ i = 13 ∨ i = 14 ∨ i = 15 ∨ i = 16 ∨ i = 17 ∨ i = 18 ∨ i = 19 ∨ i = 20 ∨ i = 21 ∨ i = 22 ∨ i = 23 ∨ i = 24 by omega) with rfl | rfl | rfl | rfl | rfl | rfl | rfl | rfl | rfl | rfl | rfl | rfl | rfl | rfl | rfl | rfl | rfl | rfl | rfl | rfl | rfl | rfl | rfl | rfl | rfl
  all_goals first
   | exact absurd har (by decide)
   | simp
 obtain ⟨l, hl⟩ : ∃ l, l = [x, y, z] := ⟨_, rfl⟩
 have hlen : l.length = 3 := by rw [hl]; rfl
 have HA : Hid (∀ j (hj : j < l.length), ∃ s, Ad w l[j] b (o + j * 7) s) := by
  subst hl
  intro j hj
  match j, hj with
  | 0, _ => exact ⟨p, by rw [Nat.zero_mul, Nat.add_zero]; exact hx⟩
  | 1, _ => exact ⟨q, by rw [Nat.one_mul]; exact hy⟩
  | 2, _ => exact ⟨r, hz⟩
  | k + 3, h => exact absurd h (by simp)
 have HL := qh9 hl
 have HLE := qh9 hlen
 have HX := qh9 hx
 clear hl hlen hx har hi hy hz
 have S0 := Sy.SB.new w (.string fp) (.string fn)
 have B0 : Below w.heap.size w (w.alloc (.cells #[.string fp, .string fn] 23)) := Below.alloc (Below.refl _ _) (Nat.le_refl _) _
 go_enter Tryz.func25, Tryz.ntmps25
 go_wp2_with fail
 generalize w.alloc (.cells #[.string fp, .string fn] 23) = W at S0 B0 ⊢
 refine (CF.out W).mono ?_
 rintro e w1 ⟨rfl, hb⟩
 have HF : Hid (Below w.heap.size w w1 ∧ Sy.SB w1 w.heap.size (.string fp) (.string fn)) := ⟨chain2 B0 hb (Nat.le_refl _), S0.keep hb⟩
 clear S0 B0 hb CF
 go_wp2_with fail
 go_loopw [7, 8, 9] (fun u s v wr => ∃ (j : Nat) (nb sb : Bool), j ≤ 3 ∧ u = .bool nb ∧ s = .bool sb ∧ v = .int .i64 (j : Int) ∧ Hid (nb = (l.take j).all Ob.isNumB) ∧ Hid (sb = (l.take j).all Ob.isStrB) ∧ Hid (Below w.heap.size w wr ∧ Sy.SB wr w.heap.size (.string fp) (.string fn))) (fun _ _ v _ => 3 - (intOf v).toNat)
 case atStart => exact ⟨0, true, true, by omega, rfl, rfl, rfl, by show _ = _; rw [List.take_zero]; rfl, by show _ = _; rw [List.take_zero]; rfl, HF⟩
 case round =>
  obtain ⟨j, nb, sb, hj, rfl, rfl, rfl, HN, HS2, hE⟩ := hrel
  obtain ⟨wo, rfl⟩ : ∃ wo : World, wo = wr := ⟨_, rfl⟩
  clear HF
  by_cases hjL : j < 3
  · have hil : j < l.length := by rw [HLE.out]; exact hjL
    obtain ⟨s, hs⟩ := HA.out j hil
    obtain ⟨k0, _, _, _, _, _, _⟩ := (hs.below hE.out.1).k
    have HK1 : Hid ((l[j].kd == 1) = l[j].isNumB) := kd_num _
    have HK3 : Hid ((l[j].kd == 3) = l[j].isStrB) := kd_str _
    have HT1 := qh9 (take_all hil Ob.isNumB)
    have HT3 := qh9 (take_all hil Ob.isStrB)
    clear hs
    generalize l[j].kd = k at *
    have hj0 : (0 : Int) ≤ (j : Int) := by omega
    have hj1 : (j : Int) < 3 := by omega
    cases nb <;> cases sb
    all_goals go_wp2_with fail
    all_goals go_roundw
    all_goals first
     | exact ⟨j + 1, _, _, by omega, rfl, rfl, by go_num, by show _ = _; rw [HT1.out, ← HN.out]; first | rfl | exact HK1.out, by show _ = _; rw [HT3.out, ← HS2.out]; first | rfl | exact HK3.out, hE.out⟩
     | (simp [intOf]; omega)
  · have hjE : j = 3 := by omega
    subst hjE
    have e : l.take 3 = l := List.take_of_length_le (by rw [HLE.out]; omega)
    rw [e] at HN HS2
    have HB := qh9 hE.out.1
    have sn := hE.out.2.c1
    clear e hE HA
    go_upto_region 10 with fail
    rcases hcase with rfl
    · have hfn' : fn = ⟨#[105, 102]⟩ := hfn.symm
      subst hfn'
      clear hfn
      go_wp2
      go_ret
      exact ⟨rfl, HB.out⟩
namespace Sy
theorem SyV.take {w : World} {q : List Sy} {A : Option Addr} {c i : Nat} (h : SyV w q (.slice A q.length c)) (hi : i ≤ q.length) : SyV w (q.take i) (.slice A i c) := by
 obtain ⟨A', c', e, h2, h3, h4⟩ := h
 injection e with e1 e2 e3
 subst e1
 subst e3
 have hl : (q.take i).length = i := by rw [List.length_take]; omega
 refine ⟨A, c, by rw [hl], by omega, h3, fun h0 => ?_⟩
 obtain ⟨b, o, h5, h6, h7⟩ := h4 (by omega)
 refine ⟨b, o, h5, h6, fun k hk => ?_⟩
 have hk' : k < q.length := by omega
 have := h7 k hk'
 rw [List.getElem_take]
 exact this
end Sy
namespace Sy
theorem info_ofY {P : Program} {t : TypeId} {z : Value} {a b : Nat} (h : (P.info? t).map (fun i => (i.zero, i.size, i.bytes)) = some (some z, a, b)) : ∃ i, P.info? t = some i ∧ i.zero = some z ∧ i.size = a ∧ i.bytes = b := by
 generalize P.info? t = x at h ⊢
 cases x with
 | none => cases h
 | some j =>
  simp only [Option.map_some, Option.some.injEq, Prod.mk.injEq] at h
  exact ⟨j, rfl, h.1, h.2.1, h.2.2⟩
theorem infoS : ∃ i, Tryz.prog.info? 23 = some i ∧ i.zero = some (.agg #[.string ⟨#[]⟩, .string ⟨#[]⟩]) ∧ i.size = 2 ∧ i.bytes = 32 := info_ofY (P := Tryz.prog) (t := 23) (z := .agg #[.string ⟨#[]⟩, .string ⟨#[]⟩]) (a := 2) (b := 32) (by kernel_rfl)
theorem add_midY (b o j : Nat) : (⟨b, o, none⟩ : Addr).add j = ⟨b, o + j, none⟩ := by unfold Addr.add; split <;> simp_all
theorem PgV.cells {w : World} {l : List Pg} {A : Option Addr} {c : Nat} (h : PgV w l (.slice A l.length c)) : ∃ cs : List Value, cs.length = l.length * 2 ∧ (0 < l.length → ∃ ad, A = some ad ∧ ad.block < w.heap.size ∧ ∀ j v, cs[j]? = some v → w.cell? (Addr.add ad j) = some v) ∧ (∀ v ∈ cs, v.oneCell' = true) ∧
 (∀ i (hi : i < l.length), cs[i * 2]? = some (.string l[i].1) ∧ ∃ u, cs[i * 2 + 1]? = some u ∧ SyV w l[i].2 u) := by
 obtain ⟨A', c', e, h2, h3, h4⟩ := h
 injection e with e1 e2 e3
 subst e1
 by_cases h0 : 0 < l.length
 · obtain ⟨b, o, rfl, hb, hc⟩ := h4 h0
   have hcell : ∀ j, j < l.length * 2 → ∃ v, w.cell? ⟨b, o + j, none⟩ = some v ∧ v.oneCell' = true := fun j hj => by
    obtain ⟨k1, u, k2, k3⟩ := hc (j / 2) (by omega)
    rcases Nat.mod_two_eq_zero_or_one j with hm | hm
    · rw [show o + j / 2 * 2 = o + j from by omega] at k1
      exact ⟨_, k1, rfl⟩
    · rw [show o + j / 2 * 2 + 1 = o + j from by omega] at k2
      obtain ⟨_, _, rfl, _⟩ := k3
      exact ⟨_, k2, rfl⟩
   refine ⟨(List.range (l.length * 2)).map fun j => (w.cell? ⟨b, o + j, none⟩).getD undef, by simp, fun _ => ⟨⟨b, o, none⟩, rfl, hb, fun j v hj => ?_⟩, fun v hv => ?_, fun i hi => ?_⟩
   · rw [List.getElem?_map] at hj
     have hjl : j < l.length * 2 := by
      rcases Nat.lt_or_ge j (l.length * 2) with h | h
      · exact h
      · rw [List.getElem?_eq_none (by simpa using h)] at hj; cases hj
     rw [List.getElem?_range hjl] at hj
     obtain ⟨x, hx, _⟩ := hcell j hjl
     simp only [Option.map_some, hx, Option.getD_some, Option.some.injEq] at hj
     subst hj
     rw [add_midY]
     exact hx
   · obtain ⟨j, hj, rfl⟩ := List.mem_map.1 hv
     obtain ⟨x, hx, h1⟩ := hcell j (List.mem_range.1 hj)
     rw [hx]
     exact h1
   · obtain ⟨k1, u, k2, k3⟩ := hc i hi
     refine ⟨?_, u, ?_, k3⟩
     · rw [List.getElem?_map, List.getElem?_range (by omega)]
       simp only [Option.map_some, k1, Option.getD_some]
     · rw [List.getElem?_map, List.getElem?_range (by omega)]
       simp only [Option.map_some]
       rw [show o + (i * 2 + 1) = o + i * 2 + 1 from by omega, k2]
       rfl
 · exact ⟨[], by simp; omega, fun h => absurd h h0, fun v hv => by simp at hv, fun i hi => absurd hi (by omega)⟩
theorem SyV.cells {w : World} {l : List Sy} {A : Option Addr} {c : Nat} (h : SyV w l (.slice A l.length c)) : ∃ cs : List Value, cs.length = l.length * 2 ∧ (0 < l.length → ∃ ad, A = some ad ∧ ad.block < w.heap.size ∧ ∀ j v, cs[j]? = some v → w.cell? (Addr.add ad j) = some v) ∧ (∀ v ∈ cs, v.oneCell' = true) ∧
 (∀ i (hi : i < l.length), cs[i * 2]? = some (.string l[i].1) ∧ cs[i * 2 + 1]? = some (.string l[i].2)) := by
 obtain ⟨A', c', e, h2, h3, h4⟩ := h
 injection e with e1 e2 e3
 subst e1
 by_cases h0 : 0 < l.length
 · obtain ⟨b, o, rfl, hb, hc⟩ := h4 h0
   have hcell : ∀ j, j < l.length * 2 → ∃ v, w.cell? ⟨b, o + j, none⟩ = some v ∧ v.oneCell' = true := fun j hj => by
    obtain ⟨k1, k2⟩ := hc (j / 2) (by omega)
    rcases Nat.mod_two_eq_zero_or_one j with hm | hm
    · rw [show o + j / 2 * 2 = o + j from by omega] at k1
      exact ⟨_, k1, rfl⟩
    · rw [show o + j / 2 * 2 + 1 = o + j from by omega] at k2
      exact ⟨_, k2, rfl⟩
   refine ⟨(List.range (l.length * 2)).map fun j => (w.cell? ⟨b, o + j, none⟩).getD undef, by simp, fun _ => ⟨⟨b, o, none⟩, rfl, hb, fun j v hj => ?_⟩, fun v hv => ?_, fun i hi => ?_⟩
   · rw [List.getElem?_map] at hj
     have hjl : j < l.length * 2 := by
      rcases Nat.lt_or_ge j (l.length * 2) with h | h
      · exact h
      · rw [List.getElem?_eq_none (by simpa using h)] at hj; cases hj
     rw [List.getElem?_range hjl] at hj
     obtain ⟨x, hx, _⟩ := hcell j hjl
     simp only [Option.map_some, hx, Option.getD_some, Option.some.injEq] at hj
     subst hj
     rw [add_midY]
     exact hx
   · obtain ⟨j, hj, rfl⟩ := List.mem_map.1 hv
     obtain ⟨x, hx, h1⟩ := hcell j (List.mem_range.1 hj)
     rw [hx]
     exact h1
   · obtain ⟨k1, k2⟩ := hc i hi
     refine ⟨?_, ?_⟩
     · rw [List.getElem?_map, List.getElem?_range (by omega)]
       simp only [Option.map_some, k1, Option.getD_some]
     · rw [List.getElem?_map, List.getElem?_range (by omega)]
       simp only [Option.map_some]
       rw [show o + (i * 2 + 1) = o + i * 2 + 1 from by omega, k2]
       rfl
 · exact ⟨[], by simp; omega, fun h => absurd h h0, fun v hv => by simp at hv, fun i hi => absurd hi (by omega)⟩
end Sy
set_option maxHeartbeats 8000000
set_option maxRecDepth 100000

def flN : Nat → List Value
 | 0 => []
 | i + 1 => flN i ++ [.string (BA lispB), .string (nmS i)]
theorem flN_length : ∀ i, (flN i).length = i * 2
 | 0 => rfl
 | i + 1 => by rw [flN, List.length_append, flN_length i]; simp; omega
theorem flN_get : ∀ (i j : Nat), j < i → (flN i)[j * 2]? = some (.string (BA lispB)) ∧ (flN i)[j * 2 + 1]? = some (.string (nmS j))
 | 0, j, h => absurd h (by omega)
 | i + 1, j, h => by
  have hl := flN_length i
  by_cases hj : j < i
  · obtain ⟨h1, h2⟩ := flN_get i j hj
    rw [flN, List.getElem?_append_left (by omega), List.getElem?_append_left (by omega)]
    exact ⟨h1, h2⟩
  · have e : j = i := by omega
    subst e
    rw [flN, List.getElem?_append_right (by omega), List.getElem?_append_right (by omega), hl]
    refine ⟨?_, ?_⟩
    · rw [show j * 2 - j * 2 = 0 from by omega]; rfl
    · rw [show j * 2 + 1 - j * 2 = 1 from by omega]; rfl
def NmAt (w : World) (g : Nat) : Prop := g < w.heap.size ∧ ∀ i, i < 25 → w.cell? ⟨g, i * 2, none⟩ = some (.string (BA lispB)) ∧ w.cell? ⟨g, i * 2 + 1, none⟩ = some (.string (nmS i))
theorem NmAt.keep {w w' : World} {g : Nat} (h : NmAt w g) (hb : Below w.heap.size w w') : NmAt w' g :=
 ⟨Nat.lt_of_lt_of_le h.1 hb.size, fun i hi => ⟨(hb.cell (p := ⟨g, i * 2, none⟩) h.1).trans (h.2 i hi).1, (hb.cell (p := ⟨g, i * 2 + 1, none⟩) h.1).trans (h.2 i hi).2⟩⟩
def RetNm (w : World) (e : Ending) (w' : World) : Prop := ∃ g c, e = .returned (.slice (some ⟨g, 0, none⟩) 25 c) ∧ 25 ≤ c ∧ NmAt w' g ∧ Below w.heap.size w w'
structure NmW (W wr : World) (i : Nat) (v : Value) : Prop where
 own : wr.ownsRow W.heap.size 23 2 v i (flN i)
 bel : Below W.heap.size W wr
theorem NmW.start (W : World) : NmW W W 0 (.slice none 0 0) := ⟨⟨rfl, .inl ⟨rfl, rfl⟩⟩, Below.refl _ _⟩
theorem NmW.own3 {W wo w3 : World} {i : Nat} {v : Value} (h : NmW W wo i v) (hb : Below wo.heap.size wo w3) (x : Obj) : (w3.alloc x).ownsRow W.heap.size 23 2 v i (flN i) :=
 own_keep h.own fun g hg => by
  have := (own_lt h.own g hg).2
  rw [Below.heap_alloc _ _ _ (by have := hb.size; omega)]
  exact hb.block g this
theorem NmW.step {W wo w3 w4 : World} {i : Nat} {v v' : Value} (h : NmW W wo i v) (hb : Below wo.heap.size wo w3) (x : Obj)
 (h4 : w4.ownsRow W.heap.size 23 2 v' (i + 1) (flN i ++ [.string (BA lispB), .string (nmS i)])) (hg : (w3.alloc x).grownBy w4 v.ownBlock) : NmW W w4 (i + 1) v' := by
 have hown := own_lt h.own
 have hsW := h.bel.size
 have hs3 := hb.size
 have hb3 := h.bel.trans (hb.mono hsW)
 have hba := Below.alloc hb3 (by omega) x
 exact ⟨h4, hba.grown hg hba.size (fun k hk => by have := (hown k hk).1; omega)⟩
theorem NmW.done {w W wr : World} {v : Value} (h : NmW W wr 25 v) : ∃ g c, v = .slice (some ⟨g, 0, none⟩) 25 c ∧ 25 ≤ c ∧ NmAt wr g := by
 have ho := own_lt h.own
 rcases h.own.2 with ⟨_, h0⟩ | ⟨g, cap, cur, rfl, hb, hh, hn, _, hcs, hcur⟩
 · cases h0
 · refine ⟨g, cap, rfl, by omega, (ho g rfl).2, fun i hi => ?_⟩
   obtain ⟨h1, h2⟩ := flN_get 25 i hi
   rw [← hcur] at h1 h2
   have k1 : i * 2 < (25 * 2) := by omega
   have k2 : i * 2 + 1 < (25 * 2) := by omega
   rw [List.getElem?_take_of_lt k1] at h1
   rw [List.getElem?_take_of_lt k2] at h2
   rw [cell_of_row _ _ _ _ _ _ hh, cell_of_row _ _ _ _ _ _ hh]
   exact ⟨by simpa using h1, by simpa using h2⟩
theorem namesP (w : World) : Calls Tryz.prog 13 #[] w (RetNm w) := by
 obtain ⟨tv, htv⟩ : ∃ tv, tblV = tv := ⟨_, rfl⟩
 have CT : Hid (∀ W, Calls Tryz.prog 41 #[] W fun e w' => e = .returned tv ∧ Below W.heap.size W w') := fun W => by rw [← htv]; exact tableP W
 have HI : Hid (∀ i : Nat, i < 25 → ∀ W : World, (Instr.index 70 tv (.int .i64 (i : Int))).run Tryz.prog W = .ok (.agg #[.string (nmS i), .int .i64 (arI i), fV (vfI i), fV (gfI i)]) W) := fun i hi W => by rw [← htv]; exact tbl_row i hi W
 clear htv
 obtain ⟨i0, hi0, hz0, hz1, hz2⟩ := Sy.infoS
 have HI0 := qh9 hi0
 have HZ0 := qh9 hz0
 have HZ1 := qh9 hz1
 have HZ2 := qh9 hz2
 clear hi0 hz0 hz1 hz2
 go_enter Tryz.func13, Tryz.ntmps13
 go_wp2_with fail
 refine (CT.out _).mono ?_
 rintro e W ⟨rfl, hb⟩
 have HW := qh9 hb
 have h0 := qh9 (NmW.start W)
 clear hb CT
 go_wp2_with fail
 go_loopw [1, 5] (fun u v wr => ∃ (i : Nat) (sl : Value), sl = u ∧ i ≤ 25 ∧ v = .int .i64 (i : Int) ∧ Hid (NmW W wr i sl)) (fun _ v _ => 25 - (intOf v).toNat)
 case atStart => exact ⟨0, _, rfl, by omega, rfl, h0⟩
 case round =>
  clear h0
  obtain ⟨i, sl, rfl, hi, rfl, hE⟩ := hrel
  obtain ⟨wo, rfl⟩ : ∃ wo : World, wo = wr := ⟨_, rfl⟩
  by_cases hiL : i < 25
  · have hidx := HI.out i hiL
    have N0 := qh9 (Bk.new wo #[.string ⟨#[]⟩, .int .i64 0, .nilFunc, .nilFunc])
    have row1 := qh9 (row_one i)
    go_upto_region 5 with (first
     | ((with_reducible refine Bk.store (.tmp 3) (.tmp 7) ?_ ?_ wo.heap.size _ _ _ _ _ _ _ _ ?_ ?_ N0.out row1.out ?_); rfl; rfl; rfl; rfl))
    have hbx : Below wo.heap.size wo (World.setRow (wo.alloc (.cells #[.string ⟨#[]⟩, .int .i64 0, .nilFunc, .nilFunc] 69)) wo.heap.size #[.string (nmS i), .int .i64 (arI i), fV (vfI i), fV (gfI i)]) := below_setRowO (Below.alloc (Below.refl _ _) (Nat.le_refl _) _) (Nat.le_refl _) _
    have hbk : Bk (World.setRow (wo.alloc (.cells #[.string ⟨#[]⟩, .int .i64 0, .nilFunc, .nilFunc] 69)) wo.heap.size #[.string (nmS i), .int .i64 (arI i), fV (vfI i), fV (gfI i)]) wo.heap.size #[.string (nmS i), .int .i64 (arI i), fV (vfI i), fV (gfI i)] := N0.out.set _
    clear N0 hidx row1
    generalize World.setRow (wo.alloc (.cells #[.string ⟨#[]⟩, .int .i64 0, .nilFunc, .nilFunc] 69)) wo.heap.size #[.string (nmS i), .int .i64 (arI i), fV (vfI i), fV (gfI i)] = X at hbx hbk ⊢
    obtain ⟨z0, z1, z2, z3⟩ := Bk.c hbk
    clear hbk z1 z2 z3
    have HBX := qh9 hbx
    clear hbx
    go_wp2_with fail
    refine (lispP _ _).mono ?_
    rintro e w3 ⟨rfl, hb⟩
    have hb3 := chain2 HBX.out hb (Nat.le_refl _)
    clear z0 hb
    have own3 := qh9 (hE.out.own3 hb3 (.cells #[.string (BA lispB), .string (nmS i)] 23))
    have HSTEP : Hid (∀ v' w4, w4.ownsRow W.heap.size 23 2 v' (i + 1) (flN i ++ [.string (BA lispB), .string (nmS i)]) → (w3.alloc (.cells #[.string (BA lispB), .string (nmS i)] 23)).grownBy w4 sl.ownBlock → NmW W w4 (i + 1) v') := fun v' w4 h4 hg => hE.out.step hb3 _ h4 hg
    have HONE : Hid (∀ u ∈ [Value.string (BA lispB), .string (nmS i)], u.oneCell' = true) := fun u hu => by
     rcases List.mem_cons.1 hu with rfl | hu
     · rfl
     · rw [List.mem_singleton] at hu; subst hu; rfl
    have HNEWS : Hid (∀ j u, [Value.string (BA lispB), .string (nmS i)][j]? = some u → (w3.alloc (.cells #[.string (BA lispB), .string (nmS i)] 23)).cell? ((⟨w3.heap.size, 0, none⟩ : Addr).add j) = some u) := newsO (cs := #[.string (BA lispB), .string (nmS i)]) rfl
    have hs3 : W.heap.size ≤ (w3.alloc (.cells #[.string (BA lispB), .string (nmS i)] 23)).heap.size := by have h1 := hb3.size; have h2 := hE.out.bel.size; simp; omega
    clear hb3
    go_wp2_with (at_builtin; refine wpList_append_own_at _ rfl (.tmp 8) (.tmp 12) _ rfl W.heap.size 23 i0 _ 2 32 Tryz.underlying25 HI0.out HZ0.out HZ1.out HZ2.out rfl (by omega) sl i (flN i) rfl own3.out ⟨w3.heap.size, 0, none⟩ 1 1 [.string (BA lispB), .string (nmS i)] rfl rfl HNEWS.out HONE.out (by simp only [maxLen]; omega) (by omega) hs3 ?_; intro v4 w4 hown4 hg4 hnil4 hat4; have hst := qh9 (HSTEP.out v4 w4 hown4 hg4); clear hown4 hg4 hnil4 hat4)
    go_roundw
    case rel => exact ⟨i + 1, _, rfl, by omega, by go_num, hst⟩
    case measure => simp [intOf]; omega
  · have hiE : i = 25 := by omega
    subst hiE
    obtain ⟨g, c, rfl, hc, hn⟩ := NmW.done (w := w) hE.out
    have HN := qh9 hn
    have hbel := qh9 (chain2 HW.out hE.out.bel (Nat.le_refl _))
    clear hE hn
    go_wp2_with fail
    go_ret
    exact ⟨g, c, rfl, hc, HN.out, hbel.out⟩
theorem namesR (w : World) : Calls Tryz.prog 14 #[] w (RetNm w) := by
 obtain ⟨i0, hi0, hz0, hz1, hz2⟩ := Sy.infoS
 have HI0 := qh9 hi0
 have HZ0 := qh9 hz0
 have HZ1 := qh9 hz1
 have HZ2 := qh9 hz2
 clear hi0 hz0 hz1 hz2
 go_enter Tryz.func14, Tryz.ntmps14
 go_wp2_with fail
 refine (rowsR _).mono ?_
 rintro e W ⟨g, rfl, hg, hg0, hb⟩
 have HW := qh9 hb
 have HG := qh9 hg
 have h0 := qh9 (NmW.start W)
 clear hb hg hg0
 go_wp2_with fail
 go_loopw [2, 3] (fun u v wr => ∃ (i : Nat) (sl : Value), sl = u ∧ i ≤ 25 ∧ v = .int .i64 (i : Int) ∧ Hid (NmW W wr i sl)) (fun _ v _ => 25 - (intOf v).toNat)
 case atStart => exact ⟨0, _, rfl, by omega, rfl, h0⟩
 case round =>
  clear h0
  obtain ⟨i, sl, rfl, hi, rfl, hE⟩ := hrel
  obtain ⟨wo, rfl⟩ : ∃ wo : World, wo = wr := ⟨_, rfl⟩
  by_cases hiL : i < 25
  · obtain ⟨k0, _⟩ := (HG.out.keep hE.out.bel).c hiL
    rw [Nat.zero_add] at k0
    have hi1 : (0 : Int) ≤ (i : Int) := by omega
    have hi2 : (i : Int) < 25 := by omega
    go_wp2_with fail
    refine (lispO _ _).mono ?_
    rintro e w3 ⟨rfl, hb3⟩
    have own3 := qh9 (hE.out.own3 hb3 (.cells #[.string (BA lispB), .string (nmS i)] 23))
    have HSTEP : Hid (∀ v' w4, w4.ownsRow W.heap.size 23 2 v' (i + 1) (flN i ++ [.string (BA lispB), .string (nmS i)]) → (w3.alloc (.cells #[.string (BA lispB), .string (nmS i)] 23)).grownBy w4 sl.ownBlock → NmW W w4 (i + 1) v') := fun v' w4 h4 hg => hE.out.step hb3 _ h4 hg
    have HONE : Hid (∀ u ∈ [Value.string (BA lispB), .string (nmS i)], u.oneCell' = true) := fun u hu => by
     rcases List.mem_cons.1 hu with rfl | hu
     · rfl
     · rw [List.mem_singleton] at hu; subst hu; rfl
    have HNEWS : Hid (∀ j u, [Value.string (BA lispB), .string (nmS i)][j]? = some u → (w3.alloc (.cells #[.string (BA lispB), .string (nmS i)] 23)).cell? ((⟨w3.heap.size, 0, none⟩ : Addr).add j) = some u) := newsO (cs := #[.string (BA lispB), .string (nmS i)]) rfl
    have hs3 : W.heap.size ≤ (w3.alloc (.cells #[.string (BA lispB), .string (nmS i)] 23)).heap.size := by have h1 := hb3.size; have h2 := hE.out.bel.size; simp; omega
    clear hb3 k0
    go_wp2_with (at_builtin; refine wpList_append_own_at _ rfl (.tmp 11) (.tmp 18) _ rfl W.heap.size 23 i0 _ 2 32 Tryz.underlying25 HI0.out HZ0.out HZ1.out HZ2.out rfl (by omega) sl i (flN i) rfl own3.out ⟨w3.heap.size, 0, none⟩ 1 1 [.string (BA lispB), .string (nmS i)] rfl rfl HNEWS.out HONE.out (by simp only [maxLen]; omega) (by omega) hs3 ?_; intro v4 w4 hown4 hg4 hnil4 hat4; have hst := qh9 (HSTEP.out v4 w4 hown4 hg4); clear hown4 hg4 hnil4 hat4)
    go_roundw
    case rel => exact ⟨i + 1, _, rfl, by omega, by go_num, hst⟩
    case measure => simp [intOf]; omega
  · have hiE : i = 25 := by omega
    subst hiE
    obtain ⟨g, c, rfl, hc, hn⟩ := NmW.done (w := w) hE.out
    have HN := qh9 hn
    have hbel := qh9 (chain2 HW.out hE.out.bel (Nat.le_refl _))
    clear hE hn
    go_wp2_with fail
    go_ret
    exact ⟨g, c, rfl, hc, HN.out, hbel.out⟩
set_option maxHeartbeats 4000000 in
set_option maxRecDepth 100000 in
theorem pickO (n : Int) (w : World) (h64 : I64 n) : Calls Tryz.prog 17 #[.int .i64 n] w (RetY w (.agg #[.string (BA lispB), .string (nmS (n % 25).toNat)])) := by
 have h0 := Int.emod_nonneg n (show (25 : Int) ≠ 0 by decide)
 have h1 := Int.emod_lt_of_pos n (show (0 : Int) < 25 by decide)
 have CM := fun W => modO n 25 W h64.1 h64.2 (by decide) (by decide)
 obtain ⟨k, hk⟩ : ∃ k : Nat, n % 25 = k := ⟨(n % 25).toNat, by omega⟩
 rw [hk] at CM h1 ⊢
 have hk25 : k < 25 := by omega
 rw [show ((k : Int)).toNat = k from by omega]
 have CH := qh9 CM
 clear h0 h1 hk CM h64
 have S0 := Sy.SB.new w (.string ⟨#[]⟩) (.string ⟨#[]⟩)
 have B0 : Below w.heap.size w (w.alloc (.cells #[.string ⟨#[]⟩, .string ⟨#[]⟩] 23)) := Below.alloc (Below.refl _ _) (Nat.le_refl _) _
 go_enter Tryz.func17, Tryz.ntmps17
 go_wp2_with fail
 generalize w.alloc (.cells #[.string ⟨#[]⟩, .string ⟨#[]⟩] 23) = W at S0 B0 ⊢
 refine (namesR _).mono ?_
 rintro e w1 ⟨g, c, rfl, hc, hn, hb⟩
 have HS := qh9 (S0.keep hb)
 have HW := qh9 (chain2 B0 hb (Nat.le_refl _))
 clear S0 B0 hb
 obtain ⟨l0, l1⟩ := hn.2 k hk25
 have hk0 : (0 : Int) ≤ (k : Int) := by omega
 have hk1 : (k : Int) < 25 := by omega
 clear hn
 go_wp2_with fail
 refine (CH.out _).mono ?_
 rintro e w2 ⟨rfl, rfl⟩
 go_wp2_with ((with_reducible refine Sy.SB.store (.tmp 2) (.tmp 11) ?_ ?_ w.heap.size (.string (BA lispB)) (.string (nmS k)) _ _ ?_ ?_ HS.out ?_ ?_ ?_); rfl; rfl; rfl; rfl; rfl; rfl)
 refine bodyPost_ret (results_cell_row rfl _ _ w.heap.size _ _ _ _ rfl (Sy.SB.set HS.out (.string (BA lispB)) (.string (nmS k))) Tryz.underlying23 rfl (by kernel_rfl)) rfl ⟨rfl, ?_⟩
 exact below_setRowO HW.out (Nat.le_refl _) _
def Fine (o : Ob) : Prop := o.bd 90 ∧ o.nodes ≤ 1000
theorem fine_fix : ∀ {o : Ob}, Fine o → Bd 90 o.fix
 | .num q, h => h.1
 | .str _, _ => bd00.more (by decide)
 | .sym _ _, _ => bd00.more (by decide)
 | .cons _ _, _ => bd00.more (by decide)
theorem fine_str : ∀ {o : Ob}, Fine o → o.strV.length ≤ 2000
 | .num _, _ => Nat.zero_le _
 | .str s, h => Nat.le_trans (show s.length ≤ 200 from h.1) (by decide)
 | .sym _ _, _ => Nat.zero_le _
 | .cons _ _, _ => Nat.zero_le _
theorem Sml.fine {o : Ob} (h : Sml o) : Fine o := ⟨Ob.bd_more (by decide) h.1, Nat.le_trans h.2 (by decide)⟩
theorem Sml.ints {o : Ob} (h : Sml o) : IntO o := fun q e => by
 subst e
 have := (show Bd 10 q from h.1).1
 constructor <;> omega
theorem Fine.n3 {o : Ob} (h : Fine o) : o.nodes ≤ 3000 := Nat.le_trans h.2 (by decide)
theorem valAll : ∀ (i : Nat) (l : List Ob) (v : Value) (w : World), i < 25 → Ar w l v → l.length = arB.getD i 0 → (∀ o ∈ l, Fine o) → (i = 23 ∨ i = 24 → ∀ o ∈ l, IntO o) → Tab w → Calls Tryz.prog (vfI i) #[v] w (RetH w (primV i l))
 | 0, l, v, w, _, hv, hl, hF, hI, ht => by
  obtain ⟨x, y, z, rfl⟩ := pv3 hl
  obtain ⟨b, o, c, p, q, r, rfl, hc, hx, hy, hz⟩ := hv.three
  exact val0 x y z b o c p q r w hx hy hz hc
 | 1, l, v, w, _, hv, hl, hF, hI, ht => by
  obtain ⟨x, y, rfl⟩ := pv2 hl
  obtain ⟨b, o, c, p, q, rfl, hc, hx, hy⟩ := hv.two
  exact val1 x y b o c p q w hx hy hc (hF x (by simp)).1 (hF y (by simp)).1 (hF x (by simp)).n3
 | 2, l, v, w, _, hv, hl, hF, hI, ht => by
  obtain ⟨x, y, rfl⟩ := pv2 hl
  obtain ⟨b, o, c, p, q, rfl, hc, hx, hy⟩ := hv.two
  exact val2 x y b o c p q w hx hy hc
 | 3, l, v, w, _, hv, hl, hF, hI, ht => by
  obtain ⟨x, rfl⟩ := pv1 hl
  obtain ⟨b, o, c, p, rfl, hc, hx⟩ := hv.one
  exact val3 x b o c p w hx hc
 | 4, l, v, w, _, hv, hl, hF, hI, ht => by
  obtain ⟨x, rfl⟩ := pv1 hl
  obtain ⟨b, o, c, p, rfl, hc, hx⟩ := hv.one
  exact val4 x b o c p w hx hc
 | 5, l, v, w, _, hv, hl, hF, hI, ht => by
  obtain ⟨x, rfl⟩ := pv1 hl
  obtain ⟨b, o, c, p, rfl, hc, hx⟩ := hv.one
  exact val5 x b o c p w hx hc
 | 6, l, v, w, _, hv, hl, hF, hI, ht => by
  obtain ⟨x, rfl⟩ := pv1 hl
  obtain ⟨b, o, c, p, rfl, hc, hx⟩ := hv.one
  exact val6 x b o c p w hx hc
 | 7, l, v, w, _, hv, hl, hF, hI, ht => by
  obtain ⟨x, rfl⟩ := pv1 hl
  obtain ⟨b, o, c, p, rfl, hc, hx⟩ := hv.one
  exact val7 x b o c p w hx hc
 | 8, l, v, w, _, hv, hl, hF, hI, ht => by
  obtain ⟨x, rfl⟩ := pv1 hl
  obtain ⟨b, o, c, p, rfl, hc, hx⟩ := hv.one
  exact val8 x b o c p w hx hc
 | 9, l, v, w, _, hv, hl, hF, hI, ht => by
  obtain ⟨x, rfl⟩ := pv1 hl
  obtain ⟨b, o, c, p, rfl, hc, hx⟩ := hv.one
  exact val9 x b o c p w hx hc
 | 10, l, v, w, _, hv, hl, hF, hI, ht => by
  obtain ⟨x, y, rfl⟩ := pv2 hl
  obtain ⟨b, o, c, p, q, rfl, hc, hx, hy⟩ := hv.two
  exact val10 x y b o c p q w hx hy hc 90 (by decide) (fine_fix (hF x (by simp))) (fine_fix (hF y (by simp))) ht
 | 11, l, v, w, _, hv, hl, hF, hI, ht => by
  obtain ⟨x, y, rfl⟩ := pv2 hl
  obtain ⟨b, o, c, p, q, rfl, hc, hx, hy⟩ := hv.two
  exact val11 x y b o c p q w hx hy hc 90 (by decide) (fine_fix (hF x (by simp))) (fine_fix (hF y (by simp))) ht
 | 12, l, v, w, _, hv, hl, hF, hI, ht => by
  obtain ⟨x, rfl⟩ := pv1 hl
  obtain ⟨b, o, c, p, rfl, hc, hx⟩ := hv.one
  exact val12 x b o c p w hx hc 90 (by decide) (fine_fix (hF x (by simp))) ht
 | 13, l, v, w, _, hv, hl, hF, hI, ht => by
  obtain ⟨x, rfl⟩ := pv1 hl
  obtain ⟨b, o, c, p, rfl, hc, hx⟩ := hv.one
  exact val13 x b o c p w hx hc 90 (by decide) (fine_fix (hF x (by simp))) ht
 | 14, l, v, w, _, hv, hl, hF, hI, ht => by
  obtain ⟨x, y, rfl⟩ := pv2 hl
  obtain ⟨b, o, c, p, q, rfl, hc, hx, hy⟩ := hv.two
  exact val14 x y b o c p q w hx hy hc 90 (by decide) (fine_fix (hF x (by simp))) (fine_fix (hF y (by simp))) ht
 | 15, l, v, w, _, hv, hl, hF, hI, ht => by
  obtain ⟨x, rfl⟩ := pv1 hl
  obtain ⟨b, o, c, p, rfl, hc, hx⟩ := hv.one
  exact val15 x b o c p w hx hc 90 (by decide) (fine_fix (hF x (by simp)))
 | 16, l, v, w, _, hv, hl, hF, hI, ht => by
  obtain ⟨x, rfl⟩ := pv1 hl
  obtain ⟨b, o, c, p, rfl, hc, hx⟩ := hv.one
  exact val16 x b o c p w hx hc 90 (by decide) (fine_fix (hF x (by simp)))
 | 17, l, v, w, _, hv, hl, hF, hI, ht => by
  obtain ⟨x, rfl⟩ := pv1 hl
  obtain ⟨b, o, c, p, rfl, hc, hx⟩ := hv.one
  exact val17 x b o c p w hx hc 90 (by decide) (fine_fix (hF x (by simp)))
 | 18, l, v, w, _, hv, hl, hF, hI, ht => by
  obtain ⟨x, rfl⟩ := pv1 hl
  obtain ⟨b, o, c, p, rfl, hc, hx⟩ := hv.one
  exact val18 x b o c p w hx hc
 | 19, l, v, w, _, hv, hl, hF, hI, ht => by
  obtain ⟨x, rfl⟩ := pv1 hl
  obtain ⟨b, o, c, p, rfl, hc, hx⟩ := hv.one
  exact val19 x b o c p w hx hc
 | 20, l, v, w, _, hv, hl, hF, hI, ht => by
  obtain ⟨x, y, rfl⟩ := pv2 hl
  obtain ⟨b, o, c, p, q, rfl, hc, hx, hy⟩ := hv.two
  exact val20 x y b o c p q w hx hy hc
 | 21, l, v, w, _, hv, hl, hF, hI, ht => by
  obtain ⟨x, y, rfl⟩ := pv2 hl
  obtain ⟨b, o, c, p, q, rfl, hc, hx, hy⟩ := hv.two
  exact val21 x y b o c p q w hx hy hc (fine_str (hF x (by simp))) (fine_str (hF y (by simp)))
 | 22, l, v, w, _, hv, hl, hF, hI, ht => by
  obtain ⟨x, rfl⟩ := pv1 hl
  obtain ⟨b, o, c, p, rfl, hc, hx⟩ := hv.one
  exact val22 x b o c p w hx hc (fine_str (hF x (by simp))) ht
 | 23, l, v, w, _, hv, hl, hF, hI, ht => by
  obtain ⟨x, y, rfl⟩ := pv2 hl
  obtain ⟨b, o, c, p, q, rfl, hc, hx, hy⟩ := hv.two
  exact val23 x y b o c p q w hx hy hc (fine_str (hF x (by simp))) (hI (.inl rfl) y (by simp)) ht
 | 24, l, v, w, _, hv, hl, hF, hI, ht => by
  obtain ⟨x, rfl⟩ := pv1 hl
  obtain ⟨b, o, c, p, rfl, hc, hx⟩ := hv.one
  exact val24 x b o c p w hx hc (hI (.inr rfl) x (by simp))
 | k + 25, _, _, _, h, _, _, _, _, _ => absurd h (by omega)
theorem grdAll : ∀ (i : Nat) (l : List Ob) (v : Value) (w : World), i < 25 → Ar w l v → l.length = arB.getD i 0 → (∀ o ∈ l, Fine o) → (i = 23 ∨ i = 24 → ∀ o ∈ l, IntO o) → Tab w → Calls Tryz.prog (gfI i) #[v] w (RetB w (guardV i l))
 | 0, l, v, w, _, hv, hl, hF, hI, ht => by
  obtain ⟨x, y, z, rfl⟩ := pv3 hl
  exact anythingP v w
 | 1, l, v, w, _, hv, hl, hF, hI, ht => by
  obtain ⟨x, y, rfl⟩ := pv2 hl
  exact anythingP v w
 | 2, l, v, w, _, hv, hl, hF, hI, ht => by
  obtain ⟨x, y, rfl⟩ := pv2 hl
  exact anythingP v w
 | 3, l, v, w, _, hv, hl, hF, hI, ht => by
  obtain ⟨x, rfl⟩ := pv1 hl
  obtain ⟨b, o, c, p, rfl, hc, hx⟩ := hv.one
  exact isListP x b o c p w hx hc
 | 4, l, v, w, _, hv, hl, hF, hI, ht => by
  obtain ⟨x, rfl⟩ := pv1 hl
  obtain ⟨b, o, c, p, rfl, hc, hx⟩ := hv.one
  exact isListP x b o c p w hx hc
 | 5, l, v, w, _, hv, hl, hF, hI, ht => by
  obtain ⟨x, rfl⟩ := pv1 hl
  exact anythingP v w
 | 6, l, v, w, _, hv, hl, hF, hI, ht => by
  obtain ⟨x, rfl⟩ := pv1 hl
  exact anythingP v w
 | 7, l, v, w, _, hv, hl, hF, hI, ht => by
  obtain ⟨x, rfl⟩ := pv1 hl
  exact anythingP v w
 | 8, l, v, w, _, hv, hl, hF, hI, ht => by
  obtain ⟨x, rfl⟩ := pv1 hl
  exact anythingP v w
 | 9, l, v, w, _, hv, hl, hF, hI, ht => by
  obtain ⟨x, rfl⟩ := pv1 hl
  exact anythingP v w
 | 10, l, v, w, _, hv, hl, hF, hI, ht => by
  obtain ⟨x, y, rfl⟩ := pv2 hl
  have h := areNumbersP [x, y] _ w hv (Nat.le_of_ble_eq_true rfl)
  rw [show [x, y].all Ob.isNumB = (x.isNumB && y.isNumB) by simp] at h
  exact h
 | 11, l, v, w, _, hv, hl, hF, hI, ht => by
  obtain ⟨x, y, rfl⟩ := pv2 hl
  have h := areNumbersP [x, y] _ w hv (Nat.le_of_ble_eq_true rfl)
  rw [show [x, y].all Ob.isNumB = (x.isNumB && y.isNumB) by simp] at h
  exact h
 | 12, l, v, w, _, hv, hl, hF, hI, ht => by
  obtain ⟨x, rfl⟩ := pv1 hl
  have h := areNumbersP [x] _ w hv (Nat.le_of_ble_eq_true rfl)
  rw [show [x].all Ob.isNumB = x.isNumB by simp] at h
  exact h
 | 13, l, v, w, _, hv, hl, hF, hI, ht => by
  obtain ⟨x, rfl⟩ := pv1 hl
  obtain ⟨b, o, c, p, rfl, hc, hx⟩ := hv.one
  exact isDivisorP x b o c p w hx hc (hF x (by simp)).1 (hF x (by simp)).n3 ht
 | 14, l, v, w, _, hv, hl, hF, hI, ht => by
  obtain ⟨x, y, rfl⟩ := pv2 hl
  have h := areNumbersP [x, y] _ w hv (Nat.le_of_ble_eq_true rfl)
  rw [show [x, y].all Ob.isNumB = (x.isNumB && y.isNumB) by simp] at h
  exact h
 | 15, l, v, w, _, hv, hl, hF, hI, ht => by
  obtain ⟨x, rfl⟩ := pv1 hl
  have h := areNumbersP [x] _ w hv (Nat.le_of_ble_eq_true rfl)
  rw [show [x].all Ob.isNumB = x.isNumB by simp] at h
  exact h
 | 16, l, v, w, _, hv, hl, hF, hI, ht => by
  obtain ⟨x, rfl⟩ := pv1 hl
  have h := areNumbersP [x] _ w hv (Nat.le_of_ble_eq_true rfl)
  rw [show [x].all Ob.isNumB = x.isNumB by simp] at h
  exact h
 | 17, l, v, w, _, hv, hl, hF, hI, ht => by
  obtain ⟨x, rfl⟩ := pv1 hl
  have h := areNumbersP [x] _ w hv (Nat.le_of_ble_eq_true rfl)
  rw [show [x].all Ob.isNumB = x.isNumB by simp] at h
  exact h
 | 18, l, v, w, _, hv, hl, hF, hI, ht => by
  obtain ⟨x, rfl⟩ := pv1 hl
  have h := isSymbolP [x] _ w hv (Nat.le_of_ble_eq_true rfl)
  rw [show [x].all Ob.isSymB = x.isSymB by simp] at h
  exact h
 | 19, l, v, w, _, hv, hl, hF, hI, ht => by
  obtain ⟨x, rfl⟩ := pv1 hl
  have h := isSymbolP [x] _ w hv (Nat.le_of_ble_eq_true rfl)
  rw [show [x].all Ob.isSymB = x.isSymB by simp] at h
  exact h
 | 20, l, v, w, _, hv, hl, hF, hI, ht => by
  obtain ⟨x, y, rfl⟩ := pv2 hl
  have h := areStringsP [x, y] _ w hv (Nat.le_of_ble_eq_true rfl)
  rw [show [x, y].all Ob.isStrB = (x.isStrB && y.isStrB) by simp] at h
  exact h
 | 21, l, v, w, _, hv, hl, hF, hI, ht => by
  obtain ⟨x, y, rfl⟩ := pv2 hl
  have h := areStringsP [x, y] _ w hv (Nat.le_of_ble_eq_true rfl)
  rw [show [x, y].all Ob.isStrB = (x.isStrB && y.isStrB) by simp] at h
  exact h
 | 22, l, v, w, _, hv, hl, hF, hI, ht => by
  obtain ⟨x, rfl⟩ := pv1 hl
  have h := areStringsP [x] _ w hv (Nat.le_of_ble_eq_true rfl)
  rw [show [x].all Ob.isStrB = x.isStrB by simp] at h
  exact h
 | 23, l, v, w, _, hv, hl, hF, hI, ht => by
  obtain ⟨x, y, rfl⟩ := pv2 hl
  obtain ⟨b, o, c, p, q, rfl, hc, hx, hy⟩ := hv.two
  exact isIndexedP x y b o c p q w hx hy hc (fine_str (hF x (by simp))) (hI (.inl rfl) y (by simp))
 | 24, l, v, w, _, hv, hl, hF, hI, ht => by
  obtain ⟨x, rfl⟩ := pv1 hl
  obtain ⟨b, o, c, p, rfl, hc, hx⟩ := hv.one
  exact isByteP x b o c p w hx hc (hI (.inr rfl) x (by simp))
 | k + 25, _, _, _, h, _, _, _, _, _ => absurd h (by omega)
theorem oneAll : ∀ (i : Nat) (x : Ob) (p : Value) (w : World), i < 25 → arB.getD i 0 = 1 → Hd w x p → Fine x → (i = 23 ∨ i = 24 → IntO x) → Tab w → Calls Tryz.prog 46 #[.string (nmS i), vO x p] w (RetH w (primV i [x]))
 | 0, _, _, _, _, h, _, _, _, _ => absurd h (by decide)
 | 1, _, _, _, _, h, _, _, _, _ => absurd h (by decide)
 | 2, _, _, _, _, h, _, _, _, _ => absurd h (by decide)
 | 3, x, p, w, _, _, hx, hF, hI, ht => oneCar x p w hx ht
 | 4, x, p, w, _, _, hx, hF, hI, ht => oneCdr x p w hx ht
 | 5, x, p, w, _, _, hx, hF, hI, ht => oneConsp x p w hx ht
 | 6, x, p, w, _, _, hx, hF, hI, ht => oneSymbolp x p w hx ht
 | 7, x, p, w, _, _, hx, hF, hI, ht => oneStringp x p w hx ht
 | 8, x, p, w, _, _, hx, hF, hI, ht => oneRationalp x p w hx ht
 | 9, x, p, w, _, _, hx, hF, hI, ht => oneIntegerp x p w hx ht
 | 10, _, _, _, _, h, _, _, _, _ => absurd h (by decide)
 | 11, _, _, _, _, h, _, _, _, _ => absurd h (by decide)
 | 12, x, p, w, _, _, hx, hF, hI, ht => oneNeg x p w hx ht 90 (by decide) (fine_fix hF)
 | 13, x, p, w, _, _, hx, hF, hI, ht => oneInv x p w hx ht 90 (by decide) (fine_fix hF)
 | 14, _, _, _, _, h, _, _, _, _ => absurd h (by decide)
 | 15, x, p, w, _, _, hx, hF, hI, ht => oneNumerator x p w hx ht 90 (by decide) (fine_fix hF)
 | 16, x, p, w, _, _, hx, hF, hI, ht => oneDenominator x p w hx ht 90 (by decide) (fine_fix hF)
 | 17, x, p, w, _, _, hx, hF, hI, ht => oneFloor x p w hx ht 90 (by decide) (fine_fix hF)
 | 18, x, p, w, _, _, hx, hF, hI, ht => oneSymName x p w hx ht
 | 19, x, p, w, _, _, hx, hF, hI, ht => oneSymPack x p w hx ht
 | 20, _, _, _, _, h, _, _, _, _ => absurd h (by decide)
 | 21, _, _, _, _, h, _, _, _, _ => absurd h (by decide)
 | 22, x, p, w, _, _, hx, hF, hI, ht => oneStrLen x p w hx ht (fine_str hF)
 | 23, _, _, _, _, h, _, _, _, _ => absurd h (by decide)
 | 24, x, p, w, _, _, hx, hF, hI, ht => oneByte x p w hx ht (hI (.inr rfl))
 | k + 25, _, _, _, h, _, _, _, _, _ => absurd h (by omega)
theorem twoAll : ∀ (i : Nat) (x y : Ob) (p q : Value) (w : World), i < 25 → arB.getD i 0 = 2 → Hd w x p → Hd w y q → Fine x → Fine y → (i = 23 ∨ i = 24 → IntO y) → Tab w → Calls Tryz.prog 47 #[.string (nmS i), vO x p, vO y q] w (RetH w (primV i [x, y]))
 | 0, _, _, _, _, _, _, h, _, _, _, _, _, _ => absurd h (by decide)
 | 1, x, y, p, q, w, _, _, hx, hy, hF, hG, hI, ht => twoEqual x y p q w hx hy ht
 | 2, x, y, p, q, w, _, _, hx, hy, hF, hG, hI, ht => twoCons x y p q w hx hy ht
 | 3, _, _, _, _, _, _, h, _, _, _, _, _, _ => absurd h (by decide)
 | 4, _, _, _, _, _, _, h, _, _, _, _, _, _ => absurd h (by decide)
 | 5, _, _, _, _, _, _, h, _, _, _, _, _, _ => absurd h (by decide)
 | 6, _, _, _, _, _, _, h, _, _, _, _, _, _ => absurd h (by decide)
 | 7, _, _, _, _, _, _, h, _, _, _, _, _, _ => absurd h (by decide)
 | 8, _, _, _, _, _, _, h, _, _, _, _, _, _ => absurd h (by decide)
 | 9, _, _, _, _, _, _, h, _, _, _, _, _, _ => absurd h (by decide)
 | 10, x, y, p, q, w, _, _, hx, hy, hF, hG, hI, ht => twoSum x y p q w hx hy ht 90 (by decide) (fine_fix hF) (fine_fix hG)
 | 11, x, y, p, q, w, _, _, hx, hy, hF, hG, hI, ht => twoProduct x y p q w hx hy ht 90 (by decide) (fine_fix hF) (fine_fix hG)
 | 12, _, _, _, _, _, _, h, _, _, _, _, _, _ => absurd h (by decide)
 | 13, _, _, _, _, _, _, h, _, _, _, _, _, _ => absurd h (by decide)
 | 14, x, y, p, q, w, _, _, hx, hy, hF, hG, hI, ht => twoLess x y p q w hx hy ht 90 (by decide) (fine_fix hF) (fine_fix hG)
 | 15, _, _, _, _, _, _, h, _, _, _, _, _, _ => absurd h (by decide)
 | 16, _, _, _, _, _, _, h, _, _, _, _, _, _ => absurd h (by decide)
 | 17, _, _, _, _, _, _, h, _, _, _, _, _, _ => absurd h (by decide)
 | 18, _, _, _, _, _, _, h, _, _, _, _, _, _ => absurd h (by decide)
 | 19, _, _, _, _, _, _, h, _, _, _, _, _, _ => absurd h (by decide)
 | 20, x, y, p, q, w, _, _, hx, hy, hF, hG, hI, ht => twoIntern x y p q w hx hy
 | 21, x, y, p, q, w, _, _, hx, hy, hF, hG, hI, ht => twoAppend x y p q w hx hy (fine_str hF) (fine_str hG)
 | 22, _, _, _, _, _, _, h, _, _, _, _, _, _ => absurd h (by decide)
 | 23, x, y, p, q, w, _, _, hx, hy, hF, hG, hI, ht => twoByte x y p q w hx hy ht (fine_str hF) (hI (.inl rfl))
 | 24, _, _, _, _, _, _, h, _, _, _, _, _, _ => absurd h (by decide)
 | k + 25, _, _, _, _, _, h, _, _, _, _, _, _, _ => absurd h (by omega)
theorem applyPall (fp fn : ByteArray) (l : List Ob) (v : Value) (w : World) (hv : Ar w l v) (ok : Bool) (ht : Tab w) (hF : ∀ o ∈ l, Fine o) (hI : ∀ i, fndP fp fn = some i → i = 23 ∨ i = 24 → ∀ o ∈ l, IntO o)
 (HO : ∀ i, fndP fp fn = some i → l.length = arB.getD i 0 → ∀ W q, Hd W (primV i l) q → Tab W → Calls Tryz.prog 45 #[vO (primV i l) q] W (RetB W ok)) :
 Calls Tryz.prog 20 #[.agg #[.string fp, .string fn], v] w (RetE w (appV ok (fndP fp fn) l)) :=
 applyP fp fn l v w hv ok ht (fun i h hl W hb => valAll i l v W (fndP_spec h).2.1 (hv.below hb) hl hF (hI i h) (ht.below hb)) HO
theorem guardPall (fp fn : ByteArray) (l : List Ob) (v : Value) (w : World) (hv : Ar w l v) (ht : Tab w) (hF : ∀ o ∈ l, Fine o) (hI : ∀ i, fndP fp fn = some i → i = 23 ∨ i = 24 → ∀ o ∈ l, IntO o) :
 Calls Tryz.prog 24 #[.agg #[.string fp, .string fn], v] w (RetB w (grdV (fndP fp fn) l)) :=
 guardP fp fn l v w hv (fun i h hl W hb => grdAll i l v W (fndP_spec h).2.1 (hv.below hb) hl hF (hI i h) (ht.below hb))
theorem arity_cases : ∀ i, i < 25 → (arB.getD i 0 = 3 ∧ i = 0) ∨ arB.getD i 0 = 2 ∨ arB.getD i 0 = 1 := by decide
theorem applyRall (fp fn : ByteArray) (l : List Ob) (v : Value) (w : World) (hv : Ar w l v) (ok : Bool) (ht : Tab w) (hF : ∀ o ∈ l, Fine o) (hI : ∀ i, fndP fp fn = some i → i = 23 ∨ i = 24 → ∀ o ∈ l, IntO o)
 (HO : ∀ i, fndP fp fn = some i → l.length = arB.getD i 0 → ∀ W q, Hd W (primV i l) q → Tab W → Calls Tryz.prog 28 #[vO (primV i l) q] W (RetB W ok)) :
 Calls Tryz.prog 21 #[.agg #[.string fp, .string fn], v] w (RetE w (appV ok (fndP fp fn) l)) := by
 have CF := fun W => arityR fp fn W
 have HS := fun i (h : fndP fp fn = some i) => fndP_spec h
 generalize fndP fp fn = R at CF HS HO hI ⊢
 cases R with
 | none => exact applyR7 fp fn v w CF
 | some i =>
  obtain ⟨_, hi, hn⟩ := HS i rfl
  have hfn : nmS i = fn := by show BA _ = fn; rw [hn, BA_LA]
  replace CF : ∀ W, Calls Tryz.prog 16 #[.agg #[.string fp, .string fn]] W (RetIB W (arI i) true) := CF
  replace HO := HO i rfl
  replace hI := hI i rfl
  by_cases hl : l.length = arB.getD i 0
  · replace HO := HO hl
    have e : appV ok (some i) l = if ok then (some (primV i l), 0) else (none, 2) := if_pos hl
    rw [e]
    clear e
    rcases arity_cases i hi with ⟨ha, rfl⟩ | ha | ha
    · obtain ⟨x, y, z, rfl⟩ := pv3 (hl.trans ha)
      obtain ⟨b, o, c, p, q, r, rfl, hc, hx, hy, hz⟩ := hv.three
      have CN : ∀ W s, Hd W x s → Calls Tryz.prog 39 #[vO x s] W (RetB W (decide (x = .nil))) := fun W s hs => isNilR x s W (Has W) (In.has W) hs
      have ep : primV 0 [x, y, z] = if x = .nil then z else y := rfl
      rw [ep] at HO ⊢
      by_cases hx0 : x = .nil
      · rw [if_pos hx0] at HO ⊢
        rw [decide_eq_true hx0] at CN
        cases ok with
        | false => exact applyR3FT fp fn x y z p q r b o c w CF hx hy hz hc ht CN HO
        | true => exact applyR3TT fp fn x y z p q r b o c w CF hx hy hz hc ht CN HO
      · rw [if_neg hx0] at HO ⊢
        rw [decide_eq_false hx0] at CN
        cases ok with
        | false => exact applyR3FF fp fn x y z p q r b o c w CF hx hy hz hc ht CN HO
        | true => exact applyR3TF fp fn x y z p q r b o c w CF hx hy hz hc ht CN HO
    · obtain ⟨x, y, rfl⟩ := pv2 (hl.trans ha)
      obtain ⟨b, o, c, p, q, rfl, hc, hx, hy⟩ := hv.two
      have ea : arI i = 2 := by unfold arI; rw [ha]; rfl
      rw [ea] at CF
      have CC : ∀ W s t, Below w.heap.size w W → Hd W x s → Hd W y t → Calls Tryz.prog 47 #[.string fn, vO x s, vO y t] W (RetH W (primV i [x, y])) := fun W s t hb h1 h2 => by
       rw [← hfn]; exact twoAll i x y s t W hi ha h1 h2 (hF x (by simp)) (hF y (by simp)) (fun h => hI h y (by simp)) (ht.below hb)
      cases ok with
      | false => exact applyR2F fp fn x y p q b o c w _ CF hx hy hc ht CC HO
      | true => exact applyR2T fp fn x y p q b o c w _ CF hx hy hc ht CC HO
    · obtain ⟨x, rfl⟩ := pv1 (hl.trans ha)
      obtain ⟨b, o, c, p, rfl, hc, hx⟩ := hv.one
      have ea : arI i = 1 := by unfold arI; rw [ha]; rfl
      rw [ea] at CF
      have CC : ∀ W s, Below w.heap.size w W → Hd W x s → Calls Tryz.prog 46 #[.string fn, vO x s] W (RetH W (primV i [x])) := fun W s hb h1 => by
       rw [← hfn]; exact oneAll i x s W hi ha h1 (hF x (by simp)) (fun h => hI h x (by simp)) (ht.below hb)
      cases ok with
      | false => exact applyR1F fp fn x p b o c w _ CF hx hc ht CC HO
      | true => exact applyR1T fp fn x p b o c w _ CF hx hc ht CC HO
  · have e : appV ok (some i) l = (none, 5) := if_neg hl
    rw [e]
    obtain ⟨A, c, rfl, _, _⟩ := hv
    refine applyR5 fp fn A l.length c (arI i) w CF ?_
    rw [bne_iff_ne]
    unfold arI
    intro h
    exact hl (by exact_mod_cast h)
theorem guardRall (fp fn : ByteArray) (l : List Ob) (v : Value) (w : World) (hv : Ar w l v) (ht : Tab w) (hF : ∀ o ∈ l, Fine o) (hI : ∀ i, fndP fp fn = some i → ∀ o ∈ l, IntO o) :
 Calls Tryz.prog 25 #[.agg #[.string fp, .string fn], v] w (RetB w (grdV (fndP fp fn) l)) := by
 have CF := fun W => arityR fp fn W
 have HS := fun i (h : fndP fp fn = some i) => fndP_spec h
 generalize fndP fp fn = R at CF HS hI ⊢
 cases R with
 | none => exact guardR0 fp fn v w CF
 | some i =>
  obtain ⟨_, hi, hn⟩ := HS i rfl
  have hfn : nmS i = fn := by show BA _ = fn; rw [hn, BA_LA]
  replace CF : ∀ W, Calls Tryz.prog 16 #[.agg #[.string fp, .string fn]] W (RetIB W (arI i) true) := CF
  replace hI := hI i rfl
  by_cases hl : l.length = arB.getD i 0
  · have e : grdV (some i) l = guardV i l := by show (decide _ && _) = _; rw [decide_eq_true hl, Bool.true_and]
    rw [e]
    clear e
    rcases arity_cases i hi with ⟨ha, _⟩ | ha | ha
    · obtain ⟨x, y, z, rfl⟩ := pv3 (hl.trans ha)
      obtain ⟨b, o, c, p, q, r, rfl, hc, hx, hy, hz⟩ := hv.three
      rw [show arI i = 3 by unfold arI; rw [ha]; rfl] at CF
      exact guardR3 fp fn i hi ha hfn x y z p q r b o c w CF hc hx hy hz
    · obtain ⟨x, y, rfl⟩ := pv2 (hl.trans ha)
      obtain ⟨b, o, c, p, q, rfl, hc, hx, hy⟩ := hv.two
      rw [show arI i = 2 by unfold arI; rw [ha]; rfl] at CF
      exact guardR2 fp fn i hi ha hfn x y p q b o c w CF hc hx hy (hI y (by simp)) (fine_str (hF x (by simp)))
    · obtain ⟨x, rfl⟩ := pv1 (hl.trans ha)
      obtain ⟨b, o, c, p, rfl, hc, hx⟩ := hv.one
      rw [show arI i = 1 by unfold arI; rw [ha]; rfl] at CF
      exact guardR1 fp fn i hi ha hfn x p b o c w CF hc hx (hI x (by simp))
  · have e : grdV (some i) l = false := by show (decide _ && _) = _; rw [decide_eq_false hl, Bool.false_and]
    rw [e]
    obtain ⟨A, c, rfl, _, _⟩ := hv
    refine guardR9 fp fn A l.length c (arI i) w CF ?_
    rw [bne_iff_ne]
    unfold arI
    intro h
    exact hl (by exact_mod_cast h)
theorem fnd_at : ∀ (i : Nat), i < 25 → fndP (BA lispB) (nmS i) = some i
 | 0, _ => by kernel_rfl
 | 1, _ => by kernel_rfl
 | 2, _ => by kernel_rfl
 | 3, _ => by kernel_rfl
 | 4, _ => by kernel_rfl
 | 5, _ => by kernel_rfl
 | 6, _ => by kernel_rfl
 | 7, _ => by kernel_rfl
 | 8, _ => by kernel_rfl
 | 9, _ => by kernel_rfl
 | 10, _ => by kernel_rfl
 | 11, _ => by kernel_rfl
 | 12, _ => by kernel_rfl
 | 13, _ => by kernel_rfl
 | 14, _ => by kernel_rfl
 | 15, _ => by kernel_rfl
 | 16, _ => by kernel_rfl
 | 17, _ => by kernel_rfl
 | 18, _ => by kernel_rfl
 | 19, _ => by kernel_rfl
 | 20, _ => by kernel_rfl
 | 21, _ => by kernel_rfl
 | 22, _ => by kernel_rfl
 | 23, _ => by kernel_rfl
 | 24, _ => by kernel_rfl
 | k + 25, h => absurd h (by omega)
theorem plain_new (w : World) (cs : Array Value) (t : TypeId) : Plain (w.alloc (.cells cs t)) w.heap.size := ⟨cs, t, heap_alloc_new w _⟩
theorem ar_new1 {w : World} {x : Ob} {p : Value} (hx : Hd w x p) : Ar (w.alloc (.cells (cellsO x p).toArray 36)) [x] (.slice (some ⟨w.heap.size, 0, none⟩) 1 1) := by
 have hb : Below w.heap.size w (w.alloc (.cells (cellsO x p).toArray 36)) := Below.alloc (Below.refl _ _) (Nat.le_refl _) _
 refine ar1 (o := 0) ⟨⟨by show _ < _; simp, plain_new w _ _⟩, fun j u hj => ?_, hx.below hb⟩ (Nat.le_refl _)
 rw [Nat.zero_add, cell_of_row _ _ _ _ _ _ (heap_alloc_new w _)]
 simpa using hj
theorem ar_new2 {w : World} {x y : Ob} {p q : Value} (hx : Hd w x p) (hy : Hd w y q) : Ar (w.alloc (.cells (cellsO x p ++ cellsO y q).toArray 36)) [x, y] (.slice (some ⟨w.heap.size, 0, none⟩) 2 2) := by
 have hb : Below w.heap.size w (w.alloc (.cells (cellsO x p ++ cellsO y q).toArray 36)) := Below.alloc (Below.refl _ _) (Nat.le_refl _) _
 have hl : (cellsO x p).length = 7 := cellsO_length _ _
 refine ar2 (o := 0) ⟨⟨by show _ < _; simp, plain_new w _ _⟩, fun j u hj => ?_, hx.below hb⟩ ⟨⟨by show _ < _; simp, plain_new w _ _⟩, fun j u hj => ?_, hy.below hb⟩ (Nat.le_refl _)
 · have hj7 : j < 7 := by
    rcases Nat.lt_or_ge j 7 with h | h
    · exact h
    · rw [List.getElem?_eq_none (by omega)] at hj; cases hj
   rw [Nat.zero_add, cell_of_row _ _ _ _ _ _ (heap_alloc_new w _)]
   show (cellsO x p ++ cellsO y q).toArray[j]? = some u
   rw [List.getElem?_toArray, List.getElem?_append_left (by omega)]
   exact hj
 · rw [Nat.zero_add, cell_of_row _ _ _ _ _ _ (heap_alloc_new w _)]
   show (cellsO x p ++ cellsO y q).toArray[7 + j]? = some u
   rw [List.getElem?_toArray, List.getElem?_append_right (by omega), hl, show 7 + j - 7 = j from by omega]
   exact hj
theorem validGP (o : Ob) (q : Value) (w : World) (hg : Good o) (h : Hd w o q) : Calls Tryz.prog 45 #[vO o q] w (RetB w true) := by
 rcases hg with ⟨h1, h2⟩ | ⟨p, n, rfl, hs⟩
 · exact validP o q w (Has w) h1 h2 (In.has w) h
 · obtain rfl : q = .slice none 0 0 := h.flat rfl
   have hv := Sy.validOY (BA p) (BA n) w
   have hs' : (Sy.pkgOk (BA p) && Sy.nameOk (BA n)) = true := hs
   rw [hs'] at hv
   exact hv
set_option maxHeartbeats 4000000 in
set_option maxRecDepth 100000 in
theorem formedSymY (x y : List UInt8) (w : World) (hb : Sy.symOk (BA x) (BA y) = true) : Calls Tryz.prog 52 #[vO (.sym x y) (.slice none 0 0)] w (RetB w true) := by
 have hp : Hd w (.sym x y) (.slice none 0 0) := rfl
 have N : Hid (∀ X, Calls Tryz.prog 53 #[.agg #[.string (BA x), .string (BA y)]] X (RetB X true)) := fun X => by
  have h := Sy.namedY (BA x) (BA y) X
  rw [hb] at h
  exact h
 have hx0 : 1 ≤ (BA x).size := by
  unfold Sy.symOk Sy.pkgOk Sy.nameOk at hb
  simp only [Bool.and_eq_true, decide_eq_true_eq] at hb
  exact hb.1.1.1
 have hx3 : ¬ (BA x).toList = [] := by
  rw [BA_toList]
  rw [BA_size] at hx0
  intro e
  rw [e] at hx0
  simp at hx0
 have hx1 : ((BA x).toList == []) = false := by rw [beq_eq_false_iff_ne]; exact hx3
 have hx2 : (BA x).toList.isEmpty = false := by rw [List.isEmpty_eq_false_iff]; exact hx3
 clear hb hx0
 have ea : cellsO (.sym x y) (.slice none 0 0) = [.int .i64 2, .string ⟨#[]⟩, .string ⟨#[]⟩, .string (BA x), .string (BA y), .string ⟨#[]⟩, (.slice none 0 0)] := rfl
 have T := Bx1.new w #[.int .i64 2, .string ⟨#[]⟩, .string ⟨#[]⟩, .string (BA x), .string (BA y), .string ⟨#[]⟩, (.slice none 0 0)]
 rw [vO_cells ea]
 go_enter Tryz.func52, Tryz.ntmps52
 go_upto_region 1 with fail
 generalize w.alloc (.cells #[.int .i64 2, .string ⟨#[]⟩, .string ⟨#[]⟩, .string (BA x), .string (BA y), .string ⟨#[]⟩, (.slice none 0 0)] 36) = W at T ⊢
 have B0 : Hid (Bx W (w.heap.size) (cellsO (.sym x y) (.slice none 0 0)).toArray) := by rw [ea]; exact T.b0
 have K0 := qh9 (hp.below T.bel)
 have HW := qh9 T.bel
 try rw [← vO_cells ea]
 clear T ea hp
 obtain ⟨m0, m1, m2, m3, m4, m5, m6⟩ := Bx.c B0.out
 try unfold e0 at m1
 try unfold e0 at m2
 try unfold e0 at m3
 try unfold e0 at m4
 try unfold e0 at m5
 go_wp2_with (first | ((with_reducible refine loadB (.tmp 1) ?_ ?_ ?_ B0.out ?_); rfl; rfl; rfl) | ((with_reducible refine loadG (.tmp 1) ?_ ?_ ?_ B0.out ?_); rfl; rfl; rfl))
 with_reducible refine (N.out _).mono ?_
 rintro e w1 ⟨rfl, hb⟩
 replace B0 := qh9 (B0.out.keep hb)
 replace K0 := qh9 (K0.out.below hb)
 replace HW := qc9 HW hb
 clear hb
 obtain ⟨m0, m1, m2, m3, m4, m5, m6⟩ := Bx.c B0.out
 try unfold e0 at m1
 try unfold e0 at m2
 try unfold e0 at m3
 try unfold e0 at m4
 try unfold e0 at m5
 go_wp2_with (first | ((with_reducible refine loadB (.tmp 1) ?_ ?_ ?_ B0.out ?_); rfl; rfl; rfl) | ((with_reducible refine loadG (.tmp 1) ?_ ?_ ?_ B0.out ?_); rfl; rfl; rfl))
 go_ret
 exact ⟨rfl, HW.out⟩
set_option maxHeartbeats 4000000 in
set_option maxRecDepth 100000 in
theorem validSymR (x y : List UInt8) (w : World) (hb : Sy.symOk (BA x) (BA y) = true) : Calls Tryz.prog 28 #[vO (.sym x y) (.slice none 0 0)] w (RetB w true) := by
 have hp : Hd w (.sym x y) (.slice none 0 0) := rfl
 have HB := qh9 hb
 have hn0 : (Ob.sym x y).nodes ≤ 3000 := by show 1 ≤ 3000; decide
 clear hb
 have ea : cellsO (.sym x y) (.slice none 0 0) = [.int .i64 2, .string ⟨#[]⟩, .string ⟨#[]⟩, .string (BA x), .string (BA y), .string ⟨#[]⟩, (.slice none 0 0)] := rfl
 have T := Bx1.new w #[.int .i64 2, .string ⟨#[]⟩, .string ⟨#[]⟩, .string (BA x), .string (BA y), .string ⟨#[]⟩, (.slice none 0 0)]
 rw [vO_cells ea]
 go_enter Tryz.func28, Tryz.ntmps28
 go_wp2_with fail
 generalize w.alloc (.cells #[.int .i64 2, .string ⟨#[]⟩, .string ⟨#[]⟩, .string (BA x), .string (BA y), .string ⟨#[]⟩, (.slice none 0 0)] 36) = W at T ⊢
 have B0 : Hid (Bx W (w.heap.size) (cellsO (.sym x y) (.slice none 0 0)).toArray) := by rw [ea]; exact T.b0
 have K0 := qh9 (hp.below T.bel)
 have HW := qh9 T.bel
 try rw [← vO_cells ea]
 clear T ea hp
 with_reducible refine (nodesR (.sym x y) _ _ hn0 K0.out).mono ?_
 rintro e w1 ⟨rfl, hb⟩
 replace B0 := qh9 (B0.out.keep hb)
 replace K0 := qh9 (K0.out.below hb)
 replace HW := qc9 HW hb
 clear hb
 have hn1 : ((Ob.sym x y).nodes : Int) ≤ 3000 := by show ((1 : Nat) : Int) ≤ 3000; decide
 go_wp2_with (first | ((with_reducible refine loadB (.tmp 1) ?_ ?_ ?_ B0.out ?_); rfl; rfl; rfl) | ((with_reducible refine loadG (.tmp 1) ?_ ?_ ?_ B0.out ?_); rfl; rfl; rfl))
 with_reducible refine (formedSymY x y _ HB.out).mono ?_
 rintro e w2 ⟨rfl, hb⟩
 replace B0 := qh9 (B0.out.keep hb)
 replace K0 := qh9 (K0.out.below hb)
 replace HW := qc9 HW hb
 clear hb
 go_wp2_with (first | ((with_reducible refine loadB (.tmp 1) ?_ ?_ ?_ B0.out ?_); rfl; rfl; rfl) | ((with_reducible refine loadG (.tmp 1) ?_ ?_ ?_ B0.out ?_); rfl; rfl; rfl))
 go_ret
 exact ⟨rfl, HW.out⟩
theorem validGR (o : Ob) (q : Value) (w : World) (hg : Good o) (h : Hd w o q) : Calls Tryz.prog 28 #[vO o q] w (RetB w true) := by
 rcases hg with ⟨h1, h2⟩ | ⟨p, n, rfl, hs⟩
 · exact valid2R o q w h1 h2 h
 · obtain rfl : q = .slice none 0 0 := h.flat rfl
   exact validSymR p n w hs
def LAr (l : List Ob) : Lv := fun v _ _ w => Ar w l v
theorem mLAr (l : List Ob) : Mon (LAr l) := fun _ _ _ _ _ h _ hb => Ar.below h hb
def LSl (n : Nat) : Lv := fun v _ _ _ => ∃ A c, v = .slice A n c
theorem mLSl (n : Nat) : Mon (LSl n) := fun _ _ _ _ _ h _ _ => h
section
variable {Q : Exit → Act → World → Prop} {ops : Array Oper} {K : Act → World → Prop} {a : Act} {w : World} {i : Nat} {o : Oper}
theorem gw_bs1c (ho : ops[i]? = some o) (hw : Region.wanted o (yielded ops a.tmps) = true) (s : Tmp) {c0 c1 c2 c3 c4 c5 c6 : Value} (hop : o.op = Op.buildSlice 33 1 #[(0, .tmp s)]) (hx : a.tmps[s]? = some (.agg #[c0, c1, c2, c3, c4, c5, c6])) (hK : K (a.put o.dst (.slice (some ⟨w.heap.size, 0, none⟩) 1 1)) (w.alloc (.cells #[c0, c1, c2, c3, c4, c5, c6] 36))) : wpOp Tryz.prog ops Q i K a w :=
 wpOp_step ho fun K' hK' => by
  rw [if_pos hw]
  unfold Oper.wp
  simp only [execOp, hop]
  go_simp
  exact hK' _ _ hK
theorem gw_bs1 (ho : ops[i]? = some o) (hw : Region.wanted o (yielded ops a.tmps) = true) (s : Tmp) {x : Ob} {p : Value} (hop : o.op = Op.buildSlice 33 1 #[(0, .tmp s)]) (hx : a.tmps[s]? = some (vO x p)) (hK : K (a.put o.dst (.slice (some ⟨w.heap.size, 0, none⟩) 1 1)) (w.alloc (.cells (cellsO x p).toArray 36))) : wpOp Tryz.prog ops Q i K a w := by
 obtain ⟨a0, a1, a2, a3, a4, a5, ea⟩ := cells7 x p
 have hx' : a.tmps[s]? = some (.agg (cellsO x p).toArray) := hx
 rw [ea] at hx' hK
 exact gw_bs1c ho hw s hop hx' hK
theorem gw_eqcE (ho : ops[i]? = some o) (hw : Region.wanted o (yielded ops a.tmps) = true) (s : Tmp) (n m : Int) (hop : o.op = Op.binOp BinOp.eql 37 (.tmp s) (.const (.int .i64 m)) 37) (hx : a.tmps[s]? = some (.int .i64 n)) (hK : K (a.put o.dst (.bool (n == m))) w) : wpOp Tryz.prog ops Q i K a w :=
 wpOp_step ho fun K' hK' => by
  rw [if_pos hw]
  unfold Oper.wp
  simp only [execOp, hop]
  go_simp
  exact hK' _ _ hK
theorem gw_eqcI (ho : ops[i]? = some o) (hw : Region.wanted o (yielded ops a.tmps) = true) (s : Tmp) (n m : Int) (hop : o.op = Op.binOp BinOp.eql 3 (.tmp s) (.const (.int .i64 m)) 3) (hx : a.tmps[s]? = some (.int .i64 n)) (hK : K (a.put o.dst (.bool (n == m))) w) : wpOp Tryz.prog ops Q i K a w :=
 wpOp_step ho fun K' hK' => by
  rw [if_pos hw]
  unfold Oper.wp
  simp only [execOp, hop]
  go_simp
  exact hK' _ _ hK
theorem gw_lenS (ho : ops[i]? = some o) (hw : Region.wanted o (yielded ops a.tmps) = true) (s : Tmp) (A : Option Addr) (n c : Nat) (hop : o.op = Op.call { callee := .builtin .len, args := #[.tmp s], argTypes := #[25] }) (hx : a.tmps[s]? = some (.slice A n c)) (hK : K (a.put o.dst (.int .i64 (n : Int))) w) : wpOp Tryz.prog ops Q i K a w :=
 wpOp_step ho fun K' hK' => by
  rw [if_pos hw]
  unfold Oper.wp
  simp only [execOp, hop]
  go_simp
  exact hK' _ _ hK
theorem gw_0 (ho : ops[i]? = some o) (hw : Region.wanted o (yielded ops a.tmps) = true) (f : FuncId) (ts : Array TypeId) (hop : o.op = Op.call { callee := Callee.value (Operand.func f), args := #[], argTypes := ts }) (hf : ∀ (w : World), (callFunc f #[]).run Tryz.prog w = .ok (.enter f #[]) w) (hc : Calls Tryz.prog f #[] w fun e w' => ∃ r, e = .returned r ∧ K (a.put o.dst r) w') : wpOp Tryz.prog ops Q i K a w :=
 wpOp_step ho fun K' hK' => by
  rw [if_pos hw]
  unfold Oper.wp
  simp only [execOp, hop]
  go_simp
  refine hc.mono ?_
  rintro e w' ⟨r, rfl, h⟩
  exact hK' _ _ h
end

end Go.Proofs.YteaieeokfiikgaaGreatDoor
