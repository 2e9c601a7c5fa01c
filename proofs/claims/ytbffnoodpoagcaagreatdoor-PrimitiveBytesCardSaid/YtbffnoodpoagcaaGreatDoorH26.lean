import Derived.Test.YtbffnoodpoagcaaGreatDoorAl
import Derived.Test.YtbffnoodpoagcaaGreatDoorH25
namespace Go.Proofs.YtbffnoodpoagcaaGreatDoor
open Go Go.RowKit
set_option linter.unusedVariables false
def RetUB (w : World) (n : Int) (r : Bool) (e : Ending) (w' : World) : Prop := e = .returned (.tuple #[.int .u8 n, .bool r]) ∧ Below w.heap.size w w'
set_option maxHeartbeats 4000000 in
set_option maxRecDepth 100000 in
theorem indexA (x y : Ob) (p q : Value) (w : World) (hx : Hd w x p) (hy : Hd w y q) (hk : ¬ x.kd = 3) : Calls Tryz.prog 73 #[vO x p, vO y q] w (RetIB w 0 false) := by
 obtain ⟨a0, a1, a2, a3, a4, a5, ea⟩ := cells7 (x) p
 obtain ⟨b0, b1, b2, b3, b4, b5, eb⟩ := cells7 (y) q
 have T := Bx2.new w #[a0, a1, a2, a3, a4, a5, p] #[b0, b1, b2, b3, b4, b5, q]
 rw [vO_cells ea, vO_cells eb]
 go_enter Tryz.func73, Tryz.ntmps73
 go_upto_region 1 with fail
 generalize (w.alloc (.cells #[a0, a1, a2, a3, a4, a5, p] 27)).alloc (.cells #[b0, b1, b2, b3, b4, b5, q] 27) = W at T ⊢
 have B0 : Hid (Bx W (w.heap.size) (cellsO (x) p).toArray) := by rw [ea]; exact T.b0
 have K0 := qh9 (hx.below T.bel)
 have B1 : Hid (Bx W (w.heap.size + 1) (cellsO (y) q).toArray) := by rw [eb]; exact T.b1
 have K1 := qh9 (hy.below T.bel)
 have HW := qh9 T.bel
 try rw [← vO_cells ea]
 try rw [← vO_cells eb]
 clear T ea eb hx hy
 obtain ⟨m0, m1, m2, m3, m4, m5, m6⟩ := Bx.c (BxK B0.out)
 clear m1 m2 m3 m4 m5 m6
 generalize x.kd = k at m0 hk
 go_wp2_with (first | ((with_reducible refine loadB (.tmp 2) ?_ ?_ ?_ B0.out ?_); rfl; rfl; rfl) | ((with_reducible refine loadB (.tmp 3) ?_ ?_ ?_ B1.out ?_); rfl; rfl; rfl) | ((with_reducible refine loadG (.tmp 2) ?_ ?_ ?_ B0.out ?_); rfl; rfl; rfl) | ((with_reducible refine loadG (.tmp 3) ?_ ?_ ?_ B1.out ?_); rfl; rfl; rfl))
 go_ret2
 exact ⟨rfl, HW.out⟩
set_option maxHeartbeats 4000000 in
set_option maxRecDepth 100000 in
theorem indexB (x y : Ob) (p q : Value) (w : World) (hx : Hd w x p) (hy : Hd w y q) (hk : x.kd = 3) (hi : y.isInt = false) : Calls Tryz.prog 73 #[vO x p, vO y q] w (RetIB w 0 false) := by
 have CI : Hid (∀ W t, Calls Tryz.prog 30 #[vO y t] W (RetB W false)) := fun W t => by rw [← hi]; exact isIntegerR y t W
 clear hi
 obtain ⟨a0, a1, a2, a3, a4, a5, ea⟩ := cells7 (x) p
 obtain ⟨b0, b1, b2, b3, b4, b5, eb⟩ := cells7 (y) q
 have T := Bx2.new w #[a0, a1, a2, a3, a4, a5, p] #[b0, b1, b2, b3, b4, b5, q]
 rw [vO_cells ea, vO_cells eb]
 go_enter Tryz.func73, Tryz.ntmps73
 go_upto_region 1 with fail
 generalize (w.alloc (.cells #[a0, a1, a2, a3, a4, a5, p] 27)).alloc (.cells #[b0, b1, b2, b3, b4, b5, q] 27) = W at T ⊢
 have B0 : Hid (Bx W (w.heap.size) (cellsO (x) p).toArray) := by rw [ea]; exact T.b0
 have K0 := qh9 (hx.below T.bel)
 have B1 : Hid (Bx W (w.heap.size + 1) (cellsO (y) q).toArray) := by rw [eb]; exact T.b1
 have K1 := qh9 (hy.below T.bel)
 have HW := qh9 T.bel
 try rw [← vO_cells ea]
 try rw [← vO_cells eb]
 clear T ea eb hx hy
 obtain ⟨m0, m1, m2, m3, m4, m5, m6⟩ := Bx.c (BxK B0.out)
 clear m1 m2 m3 m4 m5 m6
 rw [hk] at m0
 clear hk
 go_wp2_with (first | ((with_reducible refine loadB (.tmp 2) ?_ ?_ ?_ B0.out ?_); rfl; rfl; rfl) | ((with_reducible refine loadB (.tmp 3) ?_ ?_ ?_ B1.out ?_); rfl; rfl; rfl) | ((with_reducible refine loadG (.tmp 2) ?_ ?_ ?_ B0.out ?_); rfl; rfl; rfl) | ((with_reducible refine loadG (.tmp 3) ?_ ?_ ?_ B1.out ?_); rfl; rfl; rfl))
 clear m0
 with_reducible refine (CI.out _ _).mono ?_
 rintro e w1 ⟨rfl, hb⟩
 replace B0 := qh9 (B0.out.keep hb)
 replace K0 := qh9 (K0.out.below hb)
 replace B1 := qh9 (B1.out.keep hb)
 replace K1 := qh9 (K1.out.below hb)
 replace HW := qc9 HW hb
 clear hb
 go_wp2_with (first | ((with_reducible refine loadB (.tmp 2) ?_ ?_ ?_ B0.out ?_); rfl; rfl; rfl) | ((with_reducible refine loadB (.tmp 3) ?_ ?_ ?_ B1.out ?_); rfl; rfl; rfl) | ((with_reducible refine loadG (.tmp 2) ?_ ?_ ?_ B0.out ?_); rfl; rfl; rfl) | ((with_reducible refine loadG (.tmp 3) ?_ ?_ ?_ B1.out ?_); rfl; rfl; rfl))
 go_ret2
 exact ⟨rfl, HW.out⟩
set_option maxHeartbeats 4000000 in
set_option maxRecDepth 100000 in
theorem indexC (x : Ob) (y : Rat) (p : Value) (w : World) (hx : Hd w x p) (hy : Hd w (.num y) (.slice none 0 0)) (hk : x.kd = 3) (hd : y.den = 1) (sv : Int) (is : Bool) (CS : Hid (∀ W, Calls Tryz.prog 120 #[.string (nt y)] W (fun e w' => e = .returned (.tuple #[.int .i64 sv, .bool is]) ∧ Below W.heap.size W w'))) (his : is = false) : Calls Tryz.prog 73 #[vO x p, vO (.num y) (.slice none 0 0)] w (RetIB w 0 false) := by
 have CI : Hid (∀ W t, Calls Tryz.prog 30 #[vO (.num y) t] W (RetB W true)) := fun W t => by
  have h := isIntegerR (.num y) t W
  rwa [show (Ob.num y).isInt = true from decide_eq_true hd] at h
 clear hd
 obtain ⟨a0, a1, a2, a3, a4, a5, ea⟩ := cells7 (x) p
 have eb : cellsO (.num y) (.slice none 0 0) = [.int .i64 1, .string (nt y), .string (dt y), .string ⟨#[]⟩, .string ⟨#[]⟩, .string ⟨#[]⟩, (.slice none 0 0)] := rfl
 have T := Bx2.new w #[a0, a1, a2, a3, a4, a5, p] #[.int .i64 1, .string (nt y), .string (dt y), .string ⟨#[]⟩, .string ⟨#[]⟩, .string ⟨#[]⟩, (.slice none 0 0)]
 rw [vO_cells ea, vO_cells eb]
 go_enter Tryz.func73, Tryz.ntmps73
 go_upto_region 1 with fail
 generalize (w.alloc (.cells #[a0, a1, a2, a3, a4, a5, p] 27)).alloc (.cells #[.int .i64 1, .string (nt y), .string (dt y), .string ⟨#[]⟩, .string ⟨#[]⟩, .string ⟨#[]⟩, (.slice none 0 0)] 27) = W at T ⊢
 have B0 : Hid (Bx W (w.heap.size) (cellsO (x) p).toArray) := by rw [ea]; exact T.b0
 have K0 := qh9 (hx.below T.bel)
 have B1 : Hid (Bx W (w.heap.size + 1) (cellsO (.num y) (.slice none 0 0)).toArray) := by rw [eb]; exact T.b1
 have K1 := qh9 (hy.below T.bel)
 have HW := qh9 T.bel
 try rw [← vO_cells ea]
 try rw [← vO_cells eb]
 clear T ea eb hx hy
 obtain ⟨m0, m1, m2, m3, m4, m5, m6⟩ := Bx.c (BxK B0.out)
 clear m1 m2 m3 m4 m5 m6
 rw [hk] at m0
 go_wp2_with (first | ((with_reducible refine loadB (.tmp 2) ?_ ?_ ?_ B0.out ?_); rfl; rfl; rfl) | ((with_reducible refine loadB (.tmp 3) ?_ ?_ ?_ B1.out ?_); rfl; rfl; rfl) | ((with_reducible refine loadG (.tmp 2) ?_ ?_ ?_ B0.out ?_); rfl; rfl; rfl) | ((with_reducible refine loadG (.tmp 3) ?_ ?_ ?_ B1.out ?_); rfl; rfl; rfl))
 clear m0
 with_reducible refine (CI.out _ _).mono ?_
 rintro e w1 ⟨rfl, hb⟩
 replace B0 := qh9 (B0.out.keep hb)
 replace K0 := qh9 (K0.out.below hb)
 replace B1 := qh9 (B1.out.keep hb)
 replace K1 := qh9 (K1.out.below hb)
 replace HW := qc9 HW hb
 clear hb
 obtain ⟨n0, n1, n2, n3, n4, n5, n6⟩ := Bx.c B1.out
 clear n0 n2 n3 n4 n5 n6
 go_wp2_with (first | ((with_reducible refine loadB (.tmp 2) ?_ ?_ ?_ B0.out ?_); rfl; rfl; rfl) | ((with_reducible refine loadB (.tmp 3) ?_ ?_ ?_ B1.out ?_); rfl; rfl; rfl) | ((with_reducible refine loadG (.tmp 2) ?_ ?_ ?_ B0.out ?_); rfl; rfl; rfl) | ((with_reducible refine loadG (.tmp 3) ?_ ?_ ?_ B1.out ?_); rfl; rfl; rfl))
 clear n1
 with_reducible refine (CS.out _).mono ?_
 rintro e w2 ⟨rfl, hb⟩
 replace B0 := qh9 (B0.out.keep hb)
 replace K0 := qh9 (K0.out.below hb)
 replace B1 := qh9 (B1.out.keep hb)
 replace K1 := qh9 (K1.out.below hb)
 replace HW := qc9 HW hb
 clear hb
 obtain ⟨m0, m1, m2, m3, m4, m5, m6⟩ := Bx.c (BxK B0.out)
 clear m0 m1 m2 m3 m4 m6 hk
 generalize x.f5 = s at *
 subst his
 go_wp2_with fail
 go_ret2
 exact ⟨rfl, HW.out⟩
set_option maxHeartbeats 4000000 in
set_option maxRecDepth 100000 in
theorem indexD (x : Ob) (y : Rat) (p : Value) (w : World) (hx : Hd w x p) (hy : Hd w (.num y) (.slice none 0 0)) (hk : x.kd = 3) (hd : y.den = 1) (sv : Int) (is : Bool) (CS : Hid (∀ W, Calls Tryz.prog 120 #[.string (nt y)] W (fun e w' => e = .returned (.tuple #[.int .i64 sv, .bool is]) ∧ Below W.heap.size W w'))) (his : is = true) (h1 : sv < 0) : Calls Tryz.prog 73 #[vO x p, vO (.num y) (.slice none 0 0)] w (RetIB w 0 false) := by
 have CI : Hid (∀ W t, Calls Tryz.prog 30 #[vO (.num y) t] W (RetB W true)) := fun W t => by
  have h := isIntegerR (.num y) t W
  rwa [show (Ob.num y).isInt = true from decide_eq_true hd] at h
 clear hd
 obtain ⟨a0, a1, a2, a3, a4, a5, ea⟩ := cells7 (x) p
 have eb : cellsO (.num y) (.slice none 0 0) = [.int .i64 1, .string (nt y), .string (dt y), .string ⟨#[]⟩, .string ⟨#[]⟩, .string ⟨#[]⟩, (.slice none 0 0)] := rfl
 have T := Bx2.new w #[a0, a1, a2, a3, a4, a5, p] #[.int .i64 1, .string (nt y), .string (dt y), .string ⟨#[]⟩, .string ⟨#[]⟩, .string ⟨#[]⟩, (.slice none 0 0)]
 rw [vO_cells ea, vO_cells eb]
 go_enter Tryz.func73, Tryz.ntmps73
 go_upto_region 1 with fail
 generalize (w.alloc (.cells #[a0, a1, a2, a3, a4, a5, p] 27)).alloc (.cells #[.int .i64 1, .string (nt y), .string (dt y), .string ⟨#[]⟩, .string ⟨#[]⟩, .string ⟨#[]⟩, (.slice none 0 0)] 27) = W at T ⊢
 have B0 : Hid (Bx W (w.heap.size) (cellsO (x) p).toArray) := by rw [ea]; exact T.b0
 have K0 := qh9 (hx.below T.bel)
 have B1 : Hid (Bx W (w.heap.size + 1) (cellsO (.num y) (.slice none 0 0)).toArray) := by rw [eb]; exact T.b1
 have K1 := qh9 (hy.below T.bel)
 have HW := qh9 T.bel
 try rw [← vO_cells ea]
 try rw [← vO_cells eb]
 clear T ea eb hx hy
 obtain ⟨m0, m1, m2, m3, m4, m5, m6⟩ := Bx.c (BxK B0.out)
 clear m1 m2 m3 m4 m5 m6
 rw [hk] at m0
 go_wp2_with (first | ((with_reducible refine loadB (.tmp 2) ?_ ?_ ?_ B0.out ?_); rfl; rfl; rfl) | ((with_reducible refine loadB (.tmp 3) ?_ ?_ ?_ B1.out ?_); rfl; rfl; rfl) | ((with_reducible refine loadG (.tmp 2) ?_ ?_ ?_ B0.out ?_); rfl; rfl; rfl) | ((with_reducible refine loadG (.tmp 3) ?_ ?_ ?_ B1.out ?_); rfl; rfl; rfl))
 clear m0
 with_reducible refine (CI.out _ _).mono ?_
 rintro e w1 ⟨rfl, hb⟩
 replace B0 := qh9 (B0.out.keep hb)
 replace K0 := qh9 (K0.out.below hb)
 replace B1 := qh9 (B1.out.keep hb)
 replace K1 := qh9 (K1.out.below hb)
 replace HW := qc9 HW hb
 clear hb
 obtain ⟨n0, n1, n2, n3, n4, n5, n6⟩ := Bx.c B1.out
 clear n0 n2 n3 n4 n5 n6
 go_wp2_with (first | ((with_reducible refine loadB (.tmp 2) ?_ ?_ ?_ B0.out ?_); rfl; rfl; rfl) | ((with_reducible refine loadB (.tmp 3) ?_ ?_ ?_ B1.out ?_); rfl; rfl; rfl) | ((with_reducible refine loadG (.tmp 2) ?_ ?_ ?_ B0.out ?_); rfl; rfl; rfl) | ((with_reducible refine loadG (.tmp 3) ?_ ?_ ?_ B1.out ?_); rfl; rfl; rfl))
 clear n1
 with_reducible refine (CS.out _).mono ?_
 rintro e w2 ⟨rfl, hb⟩
 replace B0 := qh9 (B0.out.keep hb)
 replace K0 := qh9 (K0.out.below hb)
 replace B1 := qh9 (B1.out.keep hb)
 replace K1 := qh9 (K1.out.below hb)
 replace HW := qc9 HW hb
 clear hb
 obtain ⟨m0, m1, m2, m3, m4, m5, m6⟩ := Bx.c (BxK B0.out)
 clear m0 m1 m2 m3 m4 m6 hk
 generalize x.f5 = s at *
 subst his
 go_wp2_with fail
 go_ret2
 exact ⟨rfl, HW.out⟩
set_option maxHeartbeats 4000000 in
set_option maxRecDepth 100000 in
theorem indexE (x : Ob) (y : Rat) (p : Value) (w : World) (hx : Hd w x p) (hy : Hd w (.num y) (.slice none 0 0)) (hk : x.kd = 3) (hd : y.den = 1) (sv : Int) (is : Bool) (CS : Hid (∀ W, Calls Tryz.prog 120 #[.string (nt y)] W (fun e w' => e = .returned (.tuple #[.int .i64 sv, .bool is]) ∧ Below W.heap.size W w'))) (his : is = true) (h1 : ¬ sv < 0) (h2 : (x.f5.size : Int) ≤ sv) : Calls Tryz.prog 73 #[vO x p, vO (.num y) (.slice none 0 0)] w (RetIB w 0 false) := by
 have CI : Hid (∀ W t, Calls Tryz.prog 30 #[vO (.num y) t] W (RetB W true)) := fun W t => by
  have h := isIntegerR (.num y) t W
  rwa [show (Ob.num y).isInt = true from decide_eq_true hd] at h
 clear hd
 obtain ⟨a0, a1, a2, a3, a4, a5, ea⟩ := cells7 (x) p
 have eb : cellsO (.num y) (.slice none 0 0) = [.int .i64 1, .string (nt y), .string (dt y), .string ⟨#[]⟩, .string ⟨#[]⟩, .string ⟨#[]⟩, (.slice none 0 0)] := rfl
 have T := Bx2.new w #[a0, a1, a2, a3, a4, a5, p] #[.int .i64 1, .string (nt y), .string (dt y), .string ⟨#[]⟩, .string ⟨#[]⟩, .string ⟨#[]⟩, (.slice none 0 0)]
 rw [vO_cells ea, vO_cells eb]
 go_enter Tryz.func73, Tryz.ntmps73
 go_upto_region 1 with fail
 generalize (w.alloc (.cells #[a0, a1, a2, a3, a4, a5, p] 27)).alloc (.cells #[.int .i64 1, .string (nt y), .string (dt y), .string ⟨#[]⟩, .string ⟨#[]⟩, .string ⟨#[]⟩, (.slice none 0 0)] 27) = W at T ⊢
 have B0 : Hid (Bx W (w.heap.size) (cellsO (x) p).toArray) := by rw [ea]; exact T.b0
 have K0 := qh9 (hx.below T.bel)
 have B1 : Hid (Bx W (w.heap.size + 1) (cellsO (.num y) (.slice none 0 0)).toArray) := by rw [eb]; exact T.b1
 have K1 := qh9 (hy.below T.bel)
 have HW := qh9 T.bel
 try rw [← vO_cells ea]
 try rw [← vO_cells eb]
 clear T ea eb hx hy
 obtain ⟨m0, m1, m2, m3, m4, m5, m6⟩ := Bx.c (BxK B0.out)
 clear m1 m2 m3 m4 m5 m6
 rw [hk] at m0
 go_wp2_with (first | ((with_reducible refine loadB (.tmp 2) ?_ ?_ ?_ B0.out ?_); rfl; rfl; rfl) | ((with_reducible refine loadB (.tmp 3) ?_ ?_ ?_ B1.out ?_); rfl; rfl; rfl) | ((with_reducible refine loadG (.tmp 2) ?_ ?_ ?_ B0.out ?_); rfl; rfl; rfl) | ((with_reducible refine loadG (.tmp 3) ?_ ?_ ?_ B1.out ?_); rfl; rfl; rfl))
 clear m0
 with_reducible refine (CI.out _ _).mono ?_
 rintro e w1 ⟨rfl, hb⟩
 replace B0 := qh9 (B0.out.keep hb)
 replace K0 := qh9 (K0.out.below hb)
 replace B1 := qh9 (B1.out.keep hb)
 replace K1 := qh9 (K1.out.below hb)
 replace HW := qc9 HW hb
 clear hb
 obtain ⟨n0, n1, n2, n3, n4, n5, n6⟩ := Bx.c B1.out
 clear n0 n2 n3 n4 n5 n6
 go_wp2_with (first | ((with_reducible refine loadB (.tmp 2) ?_ ?_ ?_ B0.out ?_); rfl; rfl; rfl) | ((with_reducible refine loadB (.tmp 3) ?_ ?_ ?_ B1.out ?_); rfl; rfl; rfl) | ((with_reducible refine loadG (.tmp 2) ?_ ?_ ?_ B0.out ?_); rfl; rfl; rfl) | ((with_reducible refine loadG (.tmp 3) ?_ ?_ ?_ B1.out ?_); rfl; rfl; rfl))
 clear n1
 with_reducible refine (CS.out _).mono ?_
 rintro e w2 ⟨rfl, hb⟩
 replace B0 := qh9 (B0.out.keep hb)
 replace K0 := qh9 (K0.out.below hb)
 replace B1 := qh9 (B1.out.keep hb)
 replace K1 := qh9 (K1.out.below hb)
 replace HW := qc9 HW hb
 clear hb
 obtain ⟨m0, m1, m2, m3, m4, m5, m6⟩ := Bx.c (BxK B0.out)
 clear m0 m1 m2 m3 m4 m6 hk
 generalize x.f5 = s at *
 subst his
 go_wp2_with fail
 go_ret2
 exact ⟨rfl, HW.out⟩
set_option maxHeartbeats 4000000 in
set_option maxRecDepth 100000 in
theorem indexF (x : Ob) (y : Rat) (p : Value) (w : World) (hx : Hd w x p) (hy : Hd w (.num y) (.slice none 0 0)) (hk : x.kd = 3) (hd : y.den = 1) (sv : Int) (is : Bool) (CS : Hid (∀ W, Calls Tryz.prog 120 #[.string (nt y)] W (fun e w' => e = .returned (.tuple #[.int .i64 sv, .bool is]) ∧ Below W.heap.size W w'))) (his : is = true) (h1 : ¬ sv < 0) (h2 : ¬ (x.f5.size : Int) ≤ sv) : Calls Tryz.prog 73 #[vO x p, vO (.num y) (.slice none 0 0)] w (RetIB w sv true) := by
 have CI : Hid (∀ W t, Calls Tryz.prog 30 #[vO (.num y) t] W (RetB W true)) := fun W t => by
  have h := isIntegerR (.num y) t W
  rwa [show (Ob.num y).isInt = true from decide_eq_true hd] at h
 clear hd
 obtain ⟨a0, a1, a2, a3, a4, a5, ea⟩ := cells7 (x) p
 have eb : cellsO (.num y) (.slice none 0 0) = [.int .i64 1, .string (nt y), .string (dt y), .string ⟨#[]⟩, .string ⟨#[]⟩, .string ⟨#[]⟩, (.slice none 0 0)] := rfl
 have T := Bx2.new w #[a0, a1, a2, a3, a4, a5, p] #[.int .i64 1, .string (nt y), .string (dt y), .string ⟨#[]⟩, .string ⟨#[]⟩, .string ⟨#[]⟩, (.slice none 0 0)]
 rw [vO_cells ea, vO_cells eb]
 go_enter Tryz.func73, Tryz.ntmps73
 go_upto_region 1 with fail
 generalize (w.alloc (.cells #[a0, a1, a2, a3, a4, a5, p] 27)).alloc (.cells #[.int .i64 1, .string (nt y), .string (dt y), .string ⟨#[]⟩, .string ⟨#[]⟩, .string ⟨#[]⟩, (.slice none 0 0)] 27) = W at T ⊢
 have B0 : Hid (Bx W (w.heap.size) (cellsO (x) p).toArray) := by rw [ea]; exact T.b0
 have K0 := qh9 (hx.below T.bel)
 have B1 : Hid (Bx W (w.heap.size + 1) (cellsO (.num y) (.slice none 0 0)).toArray) := by rw [eb]; exact T.b1
 have K1 := qh9 (hy.below T.bel)
 have HW := qh9 T.bel
 try rw [← vO_cells ea]
 try rw [← vO_cells eb]
 clear T ea eb hx hy
 obtain ⟨m0, m1, m2, m3, m4, m5, m6⟩ := Bx.c (BxK B0.out)
 clear m1 m2 m3 m4 m5 m6
 rw [hk] at m0
 go_wp2_with (first | ((with_reducible refine loadB (.tmp 2) ?_ ?_ ?_ B0.out ?_); rfl; rfl; rfl) | ((with_reducible refine loadB (.tmp 3) ?_ ?_ ?_ B1.out ?_); rfl; rfl; rfl) | ((with_reducible refine loadG (.tmp 2) ?_ ?_ ?_ B0.out ?_); rfl; rfl; rfl) | ((with_reducible refine loadG (.tmp 3) ?_ ?_ ?_ B1.out ?_); rfl; rfl; rfl))
 clear m0
 with_reducible refine (CI.out _ _).mono ?_
 rintro e w1 ⟨rfl, hb⟩
 replace B0 := qh9 (B0.out.keep hb)
 replace K0 := qh9 (K0.out.below hb)
 replace B1 := qh9 (B1.out.keep hb)
 replace K1 := qh9 (K1.out.below hb)
 replace HW := qc9 HW hb
 clear hb
 obtain ⟨n0, n1, n2, n3, n4, n5, n6⟩ := Bx.c B1.out
 clear n0 n2 n3 n4 n5 n6
 go_wp2_with (first | ((with_reducible refine loadB (.tmp 2) ?_ ?_ ?_ B0.out ?_); rfl; rfl; rfl) | ((with_reducible refine loadB (.tmp 3) ?_ ?_ ?_ B1.out ?_); rfl; rfl; rfl) | ((with_reducible refine loadG (.tmp 2) ?_ ?_ ?_ B0.out ?_); rfl; rfl; rfl) | ((with_reducible refine loadG (.tmp 3) ?_ ?_ ?_ B1.out ?_); rfl; rfl; rfl))
 clear n1
 with_reducible refine (CS.out _).mono ?_
 rintro e w2 ⟨rfl, hb⟩
 replace B0 := qh9 (B0.out.keep hb)
 replace K0 := qh9 (K0.out.below hb)
 replace B1 := qh9 (B1.out.keep hb)
 replace K1 := qh9 (K1.out.below hb)
 replace HW := qc9 HW hb
 clear hb
 obtain ⟨m0, m1, m2, m3, m4, m5, m6⟩ := Bx.c (BxK B0.out)
 clear m0 m1 m2 m3 m4 m6 hk
 generalize x.f5 = s at *
 subst his
 go_wp2_with fail
 go_ret2
 exact ⟨rfl, HW.out⟩
theorem indexR (x y : Ob) (p q : Value) (w : World) (hx : Hd w x p) (hy : Hd w y q) (hl : x.strV.length ≤ 2000) (h64 : IntO y) : Calls Tryz.prog 73 #[vO x p, vO y q] w (RetIB w (((idxV x.strV.length y).getD 0 : Nat) : Int) (idxV x.strV.length y).isSome) := by
 by_cases hk : x.kd = 3
 · cases y with
   | num y =>
    obtain rfl : q = .slice none 0 0 := hy.flat rfl
    by_cases hd : y.den = 1
    · have hI := h64 y rfl
      have CS := fun W => smallT y.num W hI
      have hs : x.f5.size = x.strV.length := by cases x <;> first | rfl | exact BA_size _
      by_cases hc : 0 ≤ y.num ∧ y.num < x.strV.length
      · have e : idxV x.strV.length (.num y) = some y.num.toNat := if_pos ⟨hd, hc⟩
        obtain ⟨h1, h2⟩ := small_text hc.1 (by omega)
        rw [e]
        show Calls _ _ _ _ (RetIB w ((y.num.toNat : Nat) : Int) true)
        rw [Int.toNat_of_nonneg hc.1]
        have h := indexF x y p w hx hy hk hd (smallVal (text y.num)) (isSmall (text y.num)) CS h1 (by rw [h2]; omega) (by rw [h2, hs]; omega)
        rw [h2] at h
        exact h
      · have e : idxV x.strV.length (.num y) = none := if_neg fun h9 => hc h9.2
        rw [e]
        show Calls _ _ _ _ (RetIB w 0 false)
        rcases small_bool (by omega) hc with h1 | ⟨h1, h2⟩
        · exact indexC x y p w hx hy hk hd _ _ CS h1
        · by_cases h3 : smallVal (text y.num) < 0
          · exact indexD x y p w hx hy hk hd _ _ CS h1 h3
          · exact indexE x y p w hx hy hk hd _ _ CS h1 h3 (by rw [hs]; omega)
    · have e : idxV x.strV.length (.num y) = none := if_neg fun h9 => hd h9.1
      rw [e]
      exact indexB x (.num y) p _ w hx hy hk (by show decide (y.den = 1) = false; exact decide_eq_false hd)
   | str s => exact indexB x (.str s) p q w hx hy hk rfl
   | sym s t => exact indexB x (.sym s t) p q w hx hy hk rfl
   | cons s t => exact indexB x (.cons s t) p q w hx hy hk rfl
 · have e0 : x.strV = [] := by cases x <;> first | rfl | exact absurd rfl hk
   have e : idxV x.strV.length y = none := by
    rw [e0]
    cases y with
    | num y => exact if_neg fun h9 => by have := h9.2.1; have := h9.2.2; simp at this; omega
    | _ => rfl
   rw [e]
   exact indexA x y p q w hx hy hk
set_option maxHeartbeats 4000000 in
set_option maxRecDepth 100000 in
theorem octetB (x : Ob) (p : Value) (w : World) (hx : Hd w x p) (hi : x.isInt = false) : Calls Tryz.prog 69 #[vO x p] w (RetUB w 0 false) := by
 have CI : Hid (∀ W t, Calls Tryz.prog 30 #[vO x t] W (RetB W false)) := fun W t => by rw [← hi]; exact isIntegerR x t W
 clear hi
 obtain ⟨a0, a1, a2, a3, a4, a5, ea⟩ := cells7 (x) p
 have T := Bx1.new w #[a0, a1, a2, a3, a4, a5, p]
 rw [vO_cells ea]
 go_enter Tryz.func69, Tryz.ntmps69
 go_upto_region 1 with fail
 generalize w.alloc (.cells #[a0, a1, a2, a3, a4, a5, p] 27) = W at T ⊢
 have B0 : Hid (Bx W (w.heap.size) (cellsO (x) p).toArray) := by rw [ea]; exact T.b0
 have K0 := qh9 (hx.below T.bel)
 have HW := qh9 T.bel
 try rw [← vO_cells ea]
 clear T ea hx
 go_wp2_with (first | ((with_reducible refine loadB (.tmp 1) ?_ ?_ ?_ B0.out ?_); rfl; rfl; rfl) | ((with_reducible refine loadG (.tmp 1) ?_ ?_ ?_ B0.out ?_); rfl; rfl; rfl))
 with_reducible refine (CI.out _ _).mono ?_
 rintro e w1 ⟨rfl, hb⟩
 replace B0 := qh9 (B0.out.keep hb)
 replace K0 := qh9 (K0.out.below hb)
 replace HW := qc9 HW hb
 clear hb
 go_wp2_with (first | ((with_reducible refine loadB (.tmp 1) ?_ ?_ ?_ B0.out ?_); rfl; rfl; rfl) | ((with_reducible refine loadG (.tmp 1) ?_ ?_ ?_ B0.out ?_); rfl; rfl; rfl))
 go_ret2
 exact ⟨rfl, HW.out⟩
set_option maxHeartbeats 4000000 in
set_option maxRecDepth 100000 in
theorem octetC (x : Rat) (w : World) (hx : Hd w (.num x) (.slice none 0 0)) (hd : x.den = 1) (sv : Int) (is : Bool) (CS : Hid (∀ W, Calls Tryz.prog 120 #[.string (nt x)] W (fun e w' => e = .returned (.tuple #[.int .i64 sv, .bool is]) ∧ Below W.heap.size W w'))) (his : is = false) : Calls Tryz.prog 69 #[vO (.num x) (.slice none 0 0)] w (RetUB w 0 false) := by
 have CI : Hid (∀ W t, Calls Tryz.prog 30 #[vO (.num x) t] W (RetB W true)) := fun W t => by
  have h := isIntegerR (.num x) t W
  rwa [show (Ob.num x).isInt = true from decide_eq_true hd] at h
 clear hd
 have ea : cellsO (.num x) (.slice none 0 0) = [.int .i64 1, .string (nt x), .string (dt x), .string ⟨#[]⟩, .string ⟨#[]⟩, .string ⟨#[]⟩, (.slice none 0 0)] := rfl
 have T := Bx1.new w #[.int .i64 1, .string (nt x), .string (dt x), .string ⟨#[]⟩, .string ⟨#[]⟩, .string ⟨#[]⟩, (.slice none 0 0)]
 rw [vO_cells ea]
 go_enter Tryz.func69, Tryz.ntmps69
 go_upto_region 1 with fail
 generalize w.alloc (.cells #[.int .i64 1, .string (nt x), .string (dt x), .string ⟨#[]⟩, .string ⟨#[]⟩, .string ⟨#[]⟩, (.slice none 0 0)] 27) = W at T ⊢
 have B1 : Hid (Bx W (w.heap.size) (cellsO (.num x) (.slice none 0 0)).toArray) := by rw [ea]; exact T.b0
 have K1 := qh9 (hx.below T.bel)
 have HW := qh9 T.bel
 try rw [← vO_cells ea]
 clear T ea hx
 go_wp2_with (first | ((with_reducible refine loadB (.tmp 1) ?_ ?_ ?_ B1.out ?_); rfl; rfl; rfl) | ((with_reducible refine loadG (.tmp 1) ?_ ?_ ?_ B1.out ?_); rfl; rfl; rfl))
 with_reducible refine (CI.out _ _).mono ?_
 rintro e w1 ⟨rfl, hb⟩
 replace B1 := qh9 (B1.out.keep hb)
 replace K1 := qh9 (K1.out.below hb)
 replace HW := qc9 HW hb
 clear hb
 obtain ⟨n0, n1, n2, n3, n4, n5, n6⟩ := Bx.c B1.out
 clear n0 n2 n3 n4 n5 n6
 go_wp2_with (first | ((with_reducible refine loadB (.tmp 1) ?_ ?_ ?_ B1.out ?_); rfl; rfl; rfl) | ((with_reducible refine loadG (.tmp 1) ?_ ?_ ?_ B1.out ?_); rfl; rfl; rfl))
 clear n1
 with_reducible refine (CS.out _).mono ?_
 rintro e w2 ⟨rfl, hb⟩
 replace B1 := qh9 (B1.out.keep hb)
 replace K1 := qh9 (K1.out.below hb)
 replace HW := qc9 HW hb
 clear hb
 subst his
 go_wp2_with fail
 go_ret2
 exact ⟨rfl, HW.out⟩
set_option maxHeartbeats 4000000 in
set_option maxRecDepth 100000 in
theorem octetD (x : Rat) (w : World) (hx : Hd w (.num x) (.slice none 0 0)) (hd : x.den = 1) (sv : Int) (is : Bool) (CS : Hid (∀ W, Calls Tryz.prog 120 #[.string (nt x)] W (fun e w' => e = .returned (.tuple #[.int .i64 sv, .bool is]) ∧ Below W.heap.size W w'))) (his : is = true) (h1 : sv < 0) : Calls Tryz.prog 69 #[vO (.num x) (.slice none 0 0)] w (RetUB w 0 false) := by
 have CI : Hid (∀ W t, Calls Tryz.prog 30 #[vO (.num x) t] W (RetB W true)) := fun W t => by
  have h := isIntegerR (.num x) t W
  rwa [show (Ob.num x).isInt = true from decide_eq_true hd] at h
 clear hd
 have ea : cellsO (.num x) (.slice none 0 0) = [.int .i64 1, .string (nt x), .string (dt x), .string ⟨#[]⟩, .string ⟨#[]⟩, .string ⟨#[]⟩, (.slice none 0 0)] := rfl
 have T := Bx1.new w #[.int .i64 1, .string (nt x), .string (dt x), .string ⟨#[]⟩, .string ⟨#[]⟩, .string ⟨#[]⟩, (.slice none 0 0)]
 rw [vO_cells ea]
 go_enter Tryz.func69, Tryz.ntmps69
 go_upto_region 1 with fail
 generalize w.alloc (.cells #[.int .i64 1, .string (nt x), .string (dt x), .string ⟨#[]⟩, .string ⟨#[]⟩, .string ⟨#[]⟩, (.slice none 0 0)] 27) = W at T ⊢
 have B1 : Hid (Bx W (w.heap.size) (cellsO (.num x) (.slice none 0 0)).toArray) := by rw [ea]; exact T.b0
 have K1 := qh9 (hx.below T.bel)
 have HW := qh9 T.bel
 try rw [← vO_cells ea]
 clear T ea hx
 go_wp2_with (first | ((with_reducible refine loadB (.tmp 1) ?_ ?_ ?_ B1.out ?_); rfl; rfl; rfl) | ((with_reducible refine loadG (.tmp 1) ?_ ?_ ?_ B1.out ?_); rfl; rfl; rfl))
 with_reducible refine (CI.out _ _).mono ?_
 rintro e w1 ⟨rfl, hb⟩
 replace B1 := qh9 (B1.out.keep hb)
 replace K1 := qh9 (K1.out.below hb)
 replace HW := qc9 HW hb
 clear hb
 obtain ⟨n0, n1, n2, n3, n4, n5, n6⟩ := Bx.c B1.out
 clear n0 n2 n3 n4 n5 n6
 go_wp2_with (first | ((with_reducible refine loadB (.tmp 1) ?_ ?_ ?_ B1.out ?_); rfl; rfl; rfl) | ((with_reducible refine loadG (.tmp 1) ?_ ?_ ?_ B1.out ?_); rfl; rfl; rfl))
 clear n1
 with_reducible refine (CS.out _).mono ?_
 rintro e w2 ⟨rfl, hb⟩
 replace B1 := qh9 (B1.out.keep hb)
 replace K1 := qh9 (K1.out.below hb)
 replace HW := qc9 HW hb
 clear hb
 subst his
 go_wp2_with fail
 go_ret2
 exact ⟨rfl, HW.out⟩
set_option maxHeartbeats 4000000 in
set_option maxRecDepth 100000 in
theorem octetE (x : Rat) (w : World) (hx : Hd w (.num x) (.slice none 0 0)) (hd : x.den = 1) (sv : Int) (is : Bool) (CS : Hid (∀ W, Calls Tryz.prog 120 #[.string (nt x)] W (fun e w' => e = .returned (.tuple #[.int .i64 sv, .bool is]) ∧ Below W.heap.size W w'))) (his : is = true) (h1 : ¬ sv < 0) (h2 : 255 < sv) : Calls Tryz.prog 69 #[vO (.num x) (.slice none 0 0)] w (RetUB w 0 false) := by
 have CI : Hid (∀ W t, Calls Tryz.prog 30 #[vO (.num x) t] W (RetB W true)) := fun W t => by
  have h := isIntegerR (.num x) t W
  rwa [show (Ob.num x).isInt = true from decide_eq_true hd] at h
 clear hd
 have ea : cellsO (.num x) (.slice none 0 0) = [.int .i64 1, .string (nt x), .string (dt x), .string ⟨#[]⟩, .string ⟨#[]⟩, .string ⟨#[]⟩, (.slice none 0 0)] := rfl
 have T := Bx1.new w #[.int .i64 1, .string (nt x), .string (dt x), .string ⟨#[]⟩, .string ⟨#[]⟩, .string ⟨#[]⟩, (.slice none 0 0)]
 rw [vO_cells ea]
 go_enter Tryz.func69, Tryz.ntmps69
 go_upto_region 1 with fail
 generalize w.alloc (.cells #[.int .i64 1, .string (nt x), .string (dt x), .string ⟨#[]⟩, .string ⟨#[]⟩, .string ⟨#[]⟩, (.slice none 0 0)] 27) = W at T ⊢
 have B1 : Hid (Bx W (w.heap.size) (cellsO (.num x) (.slice none 0 0)).toArray) := by rw [ea]; exact T.b0
 have K1 := qh9 (hx.below T.bel)
 have HW := qh9 T.bel
 try rw [← vO_cells ea]
 clear T ea hx
 go_wp2_with (first | ((with_reducible refine loadB (.tmp 1) ?_ ?_ ?_ B1.out ?_); rfl; rfl; rfl) | ((with_reducible refine loadG (.tmp 1) ?_ ?_ ?_ B1.out ?_); rfl; rfl; rfl))
 with_reducible refine (CI.out _ _).mono ?_
 rintro e w1 ⟨rfl, hb⟩
 replace B1 := qh9 (B1.out.keep hb)
 replace K1 := qh9 (K1.out.below hb)
 replace HW := qc9 HW hb
 clear hb
 obtain ⟨n0, n1, n2, n3, n4, n5, n6⟩ := Bx.c B1.out
 clear n0 n2 n3 n4 n5 n6
 go_wp2_with (first | ((with_reducible refine loadB (.tmp 1) ?_ ?_ ?_ B1.out ?_); rfl; rfl; rfl) | ((with_reducible refine loadG (.tmp 1) ?_ ?_ ?_ B1.out ?_); rfl; rfl; rfl))
 clear n1
 with_reducible refine (CS.out _).mono ?_
 rintro e w2 ⟨rfl, hb⟩
 replace B1 := qh9 (B1.out.keep hb)
 replace K1 := qh9 (K1.out.below hb)
 replace HW := qc9 HW hb
 clear hb
 subst his
 go_wp2_with fail
 go_ret2
 exact ⟨rfl, HW.out⟩
set_option maxHeartbeats 4000000 in
set_option maxRecDepth 100000 in
theorem octetF (x : Rat) (w : World) (hx : Hd w (.num x) (.slice none 0 0)) (hd : x.den = 1) (sv : Int) (is : Bool) (CS : Hid (∀ W, Calls Tryz.prog 120 #[.string (nt x)] W (fun e w' => e = .returned (.tuple #[.int .i64 sv, .bool is]) ∧ Below W.heap.size W w'))) (his : is = true) (h1 : ¬ sv < 0) (h2 : ¬ 255 < sv) : Calls Tryz.prog 69 #[vO (.num x) (.slice none 0 0)] w (RetUB w sv true) := by
 have CI : Hid (∀ W t, Calls Tryz.prog 30 #[vO (.num x) t] W (RetB W true)) := fun W t => by
  have h := isIntegerR (.num x) t W
  rwa [show (Ob.num x).isInt = true from decide_eq_true hd] at h
 clear hd
 have ea : cellsO (.num x) (.slice none 0 0) = [.int .i64 1, .string (nt x), .string (dt x), .string ⟨#[]⟩, .string ⟨#[]⟩, .string ⟨#[]⟩, (.slice none 0 0)] := rfl
 have T := Bx1.new w #[.int .i64 1, .string (nt x), .string (dt x), .string ⟨#[]⟩, .string ⟨#[]⟩, .string ⟨#[]⟩, (.slice none 0 0)]
 rw [vO_cells ea]
 go_enter Tryz.func69, Tryz.ntmps69
 go_upto_region 1 with fail
 generalize w.alloc (.cells #[.int .i64 1, .string (nt x), .string (dt x), .string ⟨#[]⟩, .string ⟨#[]⟩, .string ⟨#[]⟩, (.slice none 0 0)] 27) = W at T ⊢
 have B1 : Hid (Bx W (w.heap.size) (cellsO (.num x) (.slice none 0 0)).toArray) := by rw [ea]; exact T.b0
 have K1 := qh9 (hx.below T.bel)
 have HW := qh9 T.bel
 try rw [← vO_cells ea]
 clear T ea hx
 go_wp2_with (first | ((with_reducible refine loadB (.tmp 1) ?_ ?_ ?_ B1.out ?_); rfl; rfl; rfl) | ((with_reducible refine loadG (.tmp 1) ?_ ?_ ?_ B1.out ?_); rfl; rfl; rfl))
 with_reducible refine (CI.out _ _).mono ?_
 rintro e w1 ⟨rfl, hb⟩
 replace B1 := qh9 (B1.out.keep hb)
 replace K1 := qh9 (K1.out.below hb)
 replace HW := qc9 HW hb
 clear hb
 obtain ⟨n0, n1, n2, n3, n4, n5, n6⟩ := Bx.c B1.out
 clear n0 n2 n3 n4 n5 n6
 go_wp2_with (first | ((with_reducible refine loadB (.tmp 1) ?_ ?_ ?_ B1.out ?_); rfl; rfl; rfl) | ((with_reducible refine loadG (.tmp 1) ?_ ?_ ?_ B1.out ?_); rfl; rfl; rfl))
 clear n1
 with_reducible refine (CS.out _).mono ?_
 rintro e w2 ⟨rfl, hb⟩
 replace B1 := qh9 (B1.out.keep hb)
 replace K1 := qh9 (K1.out.below hb)
 replace HW := qc9 HW hb
 clear hb
 subst his
 have ew : IntKind.u8.wrap sv = sv := IntWalk.u8_in _ (by omega)
 go_wp2_with fail
 go_ret2
 exact ⟨rfl, HW.out⟩
theorem octetR (x : Ob) (p : Value) (w : World) (hx : Hd w x p) (h64 : IntO x) : Calls Tryz.prog 69 #[vO x p] w (RetUB w (((idxV 256 x).getD 0 : Nat) : Int) (idxV 256 x).isSome) := by
 cases x with
 | num y =>
  have hx' := hx
  obtain rfl : p = .slice none 0 0 := hx'
  by_cases hd : y.den = 1
  · have hI := h64 y rfl
    have CS := fun W => smallT y.num W hI
    by_cases hc : 0 ≤ y.num ∧ y.num < (256 : Nat)
    · have e : idxV 256 (.num y) = some y.num.toNat := if_pos ⟨hd, hc⟩
      obtain ⟨h1, h2⟩ := small_text hc.1 (by omega)
      rw [e]
      show Calls _ _ _ _ (RetUB w ((y.num.toNat : Nat) : Int) true)
      rw [Int.toNat_of_nonneg hc.1]
      have h := octetF y w hx hd (smallVal (text y.num)) (isSmall (text y.num)) CS h1 (by rw [h2]; omega) (by rw [h2]; omega)
      rw [h2] at h
      exact h
    · have e : idxV 256 (.num y) = none := if_neg fun h9 => hc h9.2
      rw [e]
      show Calls _ _ _ _ (RetUB w 0 false)
      rcases small_bool (by omega) hc with h1 | ⟨h1, h2⟩
      · exact octetC y w hx hd _ _ CS h1
      · by_cases h3 : smallVal (text y.num) < 0
        · exact octetD y w hx hd _ _ CS h1 h3
        · exact octetE y w hx hd _ _ CS h1 h3 (by omega)
  · have e : idxV 256 (.num y) = none := if_neg fun h9 => hd h9.1
    rw [e]
    exact octetB (.num y) _ w hx (by show decide (y.den = 1) = false; exact decide_eq_false hd)
 | str s => exact octetB (.str s) p w hx rfl
 | sym s t => exact octetB (.sym s t) p w hx rfl
 | cons s t => exact octetB (.cons s t) p w hx rfl
end Go.Proofs.YtbffnoodpoagcaaGreatDoor
