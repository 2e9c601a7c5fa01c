/- The reference's Valid of objects, where they are valid. -/
import Derived.Test.YtocbedijpomemaaGreatDoorG19
import Derived.Test.YtocbedijpomemaaGreatDoorG21
namespace Go.Proofs.YtocbedijpomemaaGreatDoor
open Go Go.RowKit
set_option linter.unusedVariables false
set_option maxHeartbeats 32000000
set_option maxRecDepth 100000
def Ad (w : World) (o : Ob) (b k : Nat) (p : Value) : Prop := At w (Has w) o b k p
theorem Ad.below {w w' : World} {o : Ob} {b k : Nat} {p : Value} (h : Ad w o b k p) (hb : Below w.heap.size w w') : Ad w' o b k p :=
 (At.below h (In.has w) hb).more fun b hb' => Nat.lt_of_lt_of_le hb' hb.size
theorem Ad.hd {w : World} {o : Ob} {b k : Nat} {p : Value} (h : Ad w o b k p) : Hd w o p := h.2.2
theorem Hd.cons {w : World} {a d : Ob} {p : Value} (h : Hd w (.cons a d) p) : ∃ b o c pa pd, p = .slice (some ⟨b, o, none⟩) 2 c ∧ 2 ≤ c ∧ Ad w a b o pa ∧ Ad w d b (o + 7) pd := Pair.parts h
theorem loadA {ops : Array Oper} {rest : List Oper} {o : Oper} {a : Act} {w : World} {Q : Exit → Act → World → Prop} {g k : Nat} {b : Ob} {p : Value} (ho : ∃ x, o.op = .load 35 x ∧ a.eval x = .pointer (some ⟨g, k, none⟩)) (hgd : o.guard = none)
 (hb : Ad w b g k p)
 (h : wpList Tryz.prog ops Q rest (a.put o.dst (vO b p)) w) : wpList Tryz.prog ops Q (o :: rest) a w := by
 obtain ⟨x, ho, hx⟩ := ho
 exact wpList_load_mid hgd 35 x ho g k hx (cellsO b p) _ hb.2.1 Tryz.underlying35 rfl (by rw [cellsO_length]; kernel_rfl) h
theorem loadAG {ops : Array Oper} {rest : List Oper} {o : Oper} {a : Act} {w : World} {Q : Exit → Act → World → Prop} {g k : Nat} {b : Ob} {p : Value} (ho : ∃ x, o.op = .load 35 x ∧ a.eval x = .pointer (some ⟨g, k, none⟩)) (hw : Region.wanted o (yielded ops a.tmps) = true)
 (hb : Ad w b g k p)
 (h : wpList Tryz.prog ops Q rest (a.put o.dst (vO b p)) w) : wpList Tryz.prog ops Q (o :: rest) a w := by
 obtain ⟨x, ho, hx⟩ := ho
 unfold wpList
 rw [if_pos hw]
 exact .inl (wp_load_mid 35 x ho g k hx (cellsO b p) _ hb.2.1 Tryz.underlying35 rfl (by rw [cellsO_length]; kernel_rfl) h)
theorem countFlat (k : Int) (s1 s2 s3 s4 s5 : ByteArray) (m : Int) (w : World) :
 Calls Tryz.prog 106 #[.agg #[.int .i64 k, .string s1, .string s2, .string s3, .string s4, .string s5, .slice none 0 0], .int .i64 m] w (RetI w 1) := by
 go_enter Tryz.func106, Tryz.ntmps106
 go_wp2
 go_ret
 exact ⟨rfl, aO_below w _⟩
theorem countCons (a d : Ob) (p : Value) (m x y : Int) (w : World) (hx : 1 ≤ x) (hy : 1 ≤ y) (hxy : 1 + x + y ≤ m) (hm : m ≤ 3001) (hp : Hd w (.cons a d) p)
 (ca : ∀ X q, Hd X a q → Calls Tryz.prog 106 #[vO a q, .int .i64 (m - 1)] X (RetI X x)) (cd : ∀ X q, Hd X d q → Calls Tryz.prog 106 #[vO d q, .int .i64 (m - (1 + x))] X (RetI X y)) :
 Calls Tryz.prog 106 #[vO (.cons a d) p, .int .i64 m] w (RetI w (1 + x + y)) := by
 obtain ⟨b1, o1, n1, pa, pd, rfl, hn1, hA, hD⟩ := hp.cons
 have CA := hI ca
 have CD := hI cd
 clear ca cd
 have HA := hI hA
 have HD := hI hD
 clear hA hD
 have ea : cellsO (.cons a d) (.slice (some ⟨b1, o1, none⟩) 2 n1) = [.int .i64 4, .string ⟨#[]⟩, .string ⟨#[]⟩, .string ⟨#[]⟩, .string ⟨#[]⟩, .string ⟨#[]⟩, (.slice (some ⟨b1, o1, none⟩) 2 n1)] := rfl
 have T := Bx1.new w #[.int .i64 4, .string ⟨#[]⟩, .string ⟨#[]⟩, .string ⟨#[]⟩, .string ⟨#[]⟩, .string ⟨#[]⟩, (.slice (some ⟨b1, o1, none⟩) 2 n1)]
 rw [vO_cells ea]
 go_enter Tryz.func106, Tryz.ntmps106
 go_upto_region 1 with fail
 generalize w.alloc (.cells #[.int .i64 4, .string ⟨#[]⟩, .string ⟨#[]⟩, .string ⟨#[]⟩, .string ⟨#[]⟩, .string ⟨#[]⟩, (.slice (some ⟨b1, o1, none⟩) 2 n1)] 35) = W at T ⊢
 have B0 : Hid (Bx W (w.heap.size) (cellsO (.cons a d) (.slice (some ⟨b1, o1, none⟩) 2 n1)).toArray) := by rw [ea]; exact T.b0
 have K0 := hI (hp.below T.bel)
 have HW := hI T.bel
 try rw [← vO_cells ea]
 clear T ea hp
 replace HA := hI (HA.out.below HW.out)
 replace HD := hI (HD.out.below HW.out)
 obtain ⟨m0, _, _, _, _, _, m6⟩ := Bx.c B0.out
 have hm1 : ¬ m ≤ 1 := by omega
 have hm2 : 3 ≤ m := by omega
 go_wp2_with (first | (with_reducible refine lG (.tmp 2) B0.out ?_) | ((with_reducible refine loadA ?_ ?_ HA.out ?_); exact ⟨_, rfl, rfl⟩; rfl) | ((with_reducible refine loadAG ?_ ?_ HA.out ?_); exact ⟨_, rfl, rfl⟩; rfl) | ((with_reducible refine loadA ?_ ?_ HD.out ?_); exact ⟨_, rfl, rfl⟩; rfl) | ((with_reducible refine loadAG ?_ ?_ HD.out ?_); exact ⟨_, rfl, rfl⟩; rfl))
 with_reducible refine (CA.out _ _ HA.out.hd).mono ?_
 rintro e w1 ⟨rfl, hb⟩
 replace B0 := kB B0 hb
 replace K0 := kH K0 hb
 replace HW := kW HW hb
 replace HA := hI (HA.out.below hb)
 replace HD := hI (HD.out.below hb)
 clear hb
 obtain ⟨m0, _, _, _, _, _, m6⟩ := Bx.c B0.out
 have hn2 : ¬ m ≤ 1 + x := by omega
 go_wp2_with (first | (with_reducible refine lG (.tmp 2) B0.out ?_) | ((with_reducible refine loadA ?_ ?_ HA.out ?_); exact ⟨_, rfl, rfl⟩; rfl) | ((with_reducible refine loadAG ?_ ?_ HA.out ?_); exact ⟨_, rfl, rfl⟩; rfl) | ((with_reducible refine loadA ?_ ?_ HD.out ?_); exact ⟨_, rfl, rfl⟩; rfl) | ((with_reducible refine loadAG ?_ ?_ HD.out ?_); exact ⟨_, rfl, rfl⟩; rfl))
 with_reducible refine (CD.out _ _ HD.out.hd).mono ?_
 rintro e w2 ⟨rfl, hb⟩
 replace B0 := kB B0 hb
 replace K0 := kH K0 hb
 replace HW := kW HW hb
 replace HA := hI (HA.out.below hb)
 replace HD := hI (HD.out.below hb)
 clear hb
 go_wp2_with (first | (with_reducible refine lG (.tmp 2) B0.out ?_) | ((with_reducible refine loadA ?_ ?_ HA.out ?_); exact ⟨_, rfl, rfl⟩; rfl) | ((with_reducible refine loadAG ?_ ?_ HA.out ?_); exact ⟨_, rfl, rfl⟩; rfl) | ((with_reducible refine loadA ?_ ?_ HD.out ?_); exact ⟨_, rfl, rfl⟩; rfl) | ((with_reducible refine loadAG ?_ ?_ HD.out ?_); exact ⟨_, rfl, rfl⟩; rfl))
 go_ret
 exact ⟨ret_int (by omega), HW.out⟩
theorem countR : ∀ (o : Ob) (p : Value) (m : Int) (w : World), (o.nodes : Int) ≤ m → m ≤ 3001 → Hd w o p → Calls Tryz.prog 106 #[vO o p, .int .i64 m] w (RetI w (o.nodes : Int))
 | .num q, p, m, w, h, h', hp => by obtain rfl := hp.flat rfl; exact countFlat _ _ _ _ _ _ m w
 | .str s, p, m, w, h, h', hp => by obtain rfl := hp.flat rfl; exact countFlat _ _ _ _ _ _ m w
 | .sym x y, p, m, w, h, h', hp => by obtain rfl := hp.flat rfl; exact countFlat _ _ _ _ _ _ m w
 | .cons a d, p, m, w, h, h', hp => by
  have e : ((Ob.cons a d).nodes : Int) = 1 + (a.nodes : Int) + (d.nodes : Int) := by show ((1 + a.nodes + d.nodes : Nat) : Int) = _; omega
  have ha := a.nodes_pos
  have hd := d.nodes_pos
  rw [e] at h ⊢
  exact countCons a d p m _ _ w (by omega) (by omega) h h' hp (fun X q hq => countR a q (m - 1) X (by omega) (by omega) hq) (fun X q hq => countR d q _ X (by omega) (by omega) hq)
theorem nodesR (o : Ob) (p : Value) (w : World) (hn : o.nodes ≤ 3000) (hp : Hd w o p) :
 Calls Tryz.prog 83 #[vO o p] w (RetI w (o.nodes : Int)) := by
 obtain ⟨a0, a1, a2, a3, a4, a5, ea⟩ := cells7 (o) p
 have T := Bx1.new w #[a0, a1, a2, a3, a4, a5, p]
 rw [vO_cells ea]
 go_enter Tryz.func83, Tryz.ntmps83
 go_wp2_with fail
 generalize w.alloc (.cells #[a0, a1, a2, a3, a4, a5, p] 35) = W at T ⊢
 have B0 : Hid (Bx W (w.heap.size) (cellsO (o) p).toArray) := by rw [ea]; exact T.b0
 have K0 := hI (hp.below T.bel)
 have HW := hI T.bel
 try rw [← vO_cells ea]
 clear T ea hp
 with_reducible refine (countR o p 3001 _ (by omega) (by omega) K0.out).mono ?_
 rintro e w1 ⟨rfl, hb⟩
 replace B0 := kB B0 hb
 replace K0 := kH K0 hb
 replace HW := kW HW hb
 clear hb
 go_wp2_with (with_reducible refine lG (.tmp 1) B0.out ?_)
 go_ret
 exact ⟨rfl, HW.out⟩
theorem packR (w : World) : Calls Tryz.prog 132 #[.string (BA lispB)] w fun e w' => e = .returned (.bool true) ∧ w = w' := by
 show Calls _ _ #[.string ⟨#[108, 105, 115, 112]⟩] _ _
 go_enter Tryz.func132, Tryz.ntmps132
 go_wp2_with fail
 go_loop [3] (fun v => ∃ i : Nat, i ≤ 4 ∧ v = .int .i64 i) (fun v => 4 - (intOf v).toNat)
 case atStart => exact ⟨0, by omega, rfl⟩
 case round =>
  obtain ⟨i, hi, rfl⟩ := hrel
  have h5 : i = 0 ∨ i = 1 ∨ i = 2 ∨ i = 3 ∨ i = 4 := by omega
  rcases h5 with rfl | rfl | rfl | rfl | rfl
  · go_wp2
    go_round
    case rel => exact ⟨1, by omega, rfl⟩
    case measure => simp [intOf]
  · go_wp2
    go_round
    case rel => exact ⟨2, by omega, rfl⟩
    case measure => simp [intOf]
  · go_wp2
    go_round
    case rel => exact ⟨3, by omega, rfl⟩
    case measure => simp [intOf]
  · go_wp2
    go_round
    case rel => exact ⟨4, by omega, rfl⟩
    case measure => simp [intOf]
  · go_wp2
    go_ret
    exact ⟨rfl, rfl⟩
theorem packU (w : World) : Calls Tryz.prog 132 #[.string (BA userB)] w fun e w' => e = .returned (.bool true) ∧ w = w' := by
 show Calls _ _ #[.string ⟨#[117, 115, 101, 114]⟩] _ _
 go_enter Tryz.func132, Tryz.ntmps132
 go_wp2_with fail
 go_loop [3] (fun v => ∃ i : Nat, i ≤ 4 ∧ v = .int .i64 i) (fun v => 4 - (intOf v).toNat)
 case atStart => exact ⟨0, by omega, rfl⟩
 case round =>
  obtain ⟨i, hi, rfl⟩ := hrel
  have h5 : i = 0 ∨ i = 1 ∨ i = 2 ∨ i = 3 ∨ i = 4 := by omega
  rcases h5 with rfl | rfl | rfl | rfl | rfl
  · go_wp2
    go_round
    case rel => exact ⟨1, by omega, rfl⟩
    case measure => simp [intOf]
  · go_wp2
    go_round
    case rel => exact ⟨2, by omega, rfl⟩
    case measure => simp [intOf]
  · go_wp2
    go_round
    case rel => exact ⟨3, by omega, rfl⟩
    case measure => simp [intOf]
  · go_wp2
    go_round
    case rel => exact ⟨4, by omega, rfl⟩
    case measure => simp [intOf]
  · go_wp2
    go_ret
    exact ⟨rfl, rfl⟩
theorem namedR (x y : List UInt8) (h : SyOk x y) (w : World) : Calls Tryz.prog 108 #[.agg #[.string (BA x), .string (BA y)]] w (RetB w true) := by
 have P : Hid (∀ w, Calls Tryz.prog 132 #[.string (BA x)] w fun e w' => e = .returned (.bool true) ∧ w = w') := by
  rcases h.1 with rfl | rfl
  · exact packR
  · exact packU
 have h1 : (1 : Int) ≤ ((BA y).size : Int) := by rw [BA_size]; have := h.2.1; omega
 have h2 : ((BA y).size : Int) ≤ 40 := by rw [BA_size]; have := h.2.2; omega
 clear h
 generalize BA x = s at P ⊢
 generalize BA y = t at h1 h2 ⊢
 go_enter Tryz.func108, Tryz.ntmps108
 go_wp2_with fail
 refine (P.out _).mono ?_
 rintro e w' ⟨rfl, rfl⟩
 go_wp2
 go_ret
 exact ⟨rfl, Below.alloc (Below.refl _ _) (Nat.le_refl _) _⟩
theorem formedNum (q : Rat) (w : World) (hb : Bd 90 q) : Calls Tryz.prog 84 #[vO (.num q) (.slice none 0 0)] w (RetB w true) := by
 have hp : Hd w (.num q) (.slice none 0 0) := hd_num w q
 have s1 := bd_nt hb
 have s2 := bd_dt hb
 have RD : Hid (∀ X, Calls Tryz.prog 47 #[.string (nt q), .string (dt q)] X fun e w' => e = .returned (.tuple #[.string (nt q), .string (dt q)]) ∧ Below X.heap.size X w') := fun X => by
  have h := reduceR_q (nt q) (dt q) X (by omega) (by omega)
  rw [quo_self] at h
  exact h
 have n1 : ((body (LA (nt q))).length : Int) ≤ 100 := by have := body_length (LA (nt q)); have e : (LA (nt q)).length = (nt q).size := rfl; omega
 have n2 : ((body (LA (dt q))).length : Int) ≤ 100 := by have := body_length (LA (dt q)); have e : (LA (dt q)).length = (dt q).size := rfl; omega
 have D1 : Hid (∀ X, Calls Tryz.prog 107 #[.string (nt q)] X (RetI X ((body (LA (nt q))).length : Int))) := fun X => digitsCountR (nt q) X (by omega)
 have D2 : Hid (∀ X, Calls Tryz.prog 107 #[.string (dt q)] X (RetI X ((body (LA (dt q))).length : Int))) := fun X => digitsCountR (dt q) X (by omega)
 clear s1 s2 hb
 generalize ((body (LA (nt q))).length : Int) = x1 at n1 D1
 generalize ((body (LA (dt q))).length : Int) = x2 at n2 D2
 have ea : cellsO (.num q) (.slice none 0 0) = [.int .i64 1, .string (nt q), .string (dt q), .string ⟨#[]⟩, .string ⟨#[]⟩, .string ⟨#[]⟩, (.slice none 0 0)] := rfl
 have T := Bx1.new w #[.int .i64 1, .string (nt q), .string (dt q), .string ⟨#[]⟩, .string ⟨#[]⟩, .string ⟨#[]⟩, (.slice none 0 0)]
 rw [vO_cells ea]
 go_enter Tryz.func84, Tryz.ntmps84
 go_upto_region 1 with fail
 generalize w.alloc (.cells #[.int .i64 1, .string (nt q), .string (dt q), .string ⟨#[]⟩, .string ⟨#[]⟩, .string ⟨#[]⟩, (.slice none 0 0)] 35) = W at T ⊢
 have B0 : Hid (Bx W (w.heap.size) (cellsO (.num q) (.slice none 0 0)).toArray) := by rw [ea]; exact T.b0
 have K0 := hI (hp.below T.bel)
 have HW := hI T.bel
 try rw [← vO_cells ea]
 clear T ea hp
 obtain ⟨m0, m1, m2, m3, m4, m5, m6⟩ := Bx.c B0.out
 try unfold e0 at m1
 try unfold e0 at m2
 try unfold e0 at m3
 try unfold e0 at m4
 try unfold e0 at m5
 go_wp2_with (with_reducible refine lG (.tmp 1) B0.out ?_)
 with_reducible refine (RD.out _).mono ?_
 rintro e w1 ⟨rfl, hb⟩
 replace B0 := kB B0 hb
 replace K0 := kH K0 hb
 replace HW := kW HW hb
 clear hb
 obtain ⟨m0, m1, m2, m3, m4, m5, m6⟩ := Bx.c B0.out
 try unfold e0 at m1
 try unfold e0 at m2
 try unfold e0 at m3
 try unfold e0 at m4
 try unfold e0 at m5
 go_wp2_with (with_reducible refine lG (.tmp 1) B0.out ?_)
 with_reducible refine (D1.out _).mono ?_
 rintro e w2 ⟨rfl, hb⟩
 replace B0 := kB B0 hb
 replace K0 := kH K0 hb
 replace HW := kW HW hb
 clear hb
 obtain ⟨m0, m1, m2, m3, m4, m5, m6⟩ := Bx.c B0.out
 try unfold e0 at m1
 try unfold e0 at m2
 try unfold e0 at m3
 try unfold e0 at m4
 try unfold e0 at m5
 go_wp2_with (with_reducible refine lG (.tmp 1) B0.out ?_)
 with_reducible refine (D2.out _).mono ?_
 rintro e w3 ⟨rfl, hb⟩
 replace B0 := kB B0 hb
 replace K0 := kH K0 hb
 replace HW := kW HW hb
 clear hb
 go_wp2_with (with_reducible refine lG (.tmp 1) B0.out ?_)
 go_ret
 exact ⟨rfl, HW.out⟩
theorem formedStr (s : List UInt8) (w : World) (hb : s.length ≤ 200) : Calls Tryz.prog 84 #[vO (.str s) (.slice none 0 0)] w (RetB w true) := by
 have hp : Hd w (.str s) (.slice none 0 0) := rfl
 have hs : ((BA s).size : Int) ≤ 200 := by rw [BA_size]; omega
 clear hb
 have ea : cellsO (.str s) (.slice none 0 0) = [.int .i64 3, .string ⟨#[]⟩, .string ⟨#[]⟩, .string ⟨#[]⟩, .string ⟨#[]⟩, .string (BA s), (.slice none 0 0)] := rfl
 have T := Bx1.new w #[.int .i64 3, .string ⟨#[]⟩, .string ⟨#[]⟩, .string ⟨#[]⟩, .string ⟨#[]⟩, .string (BA s), (.slice none 0 0)]
 rw [vO_cells ea]
 go_enter Tryz.func84, Tryz.ntmps84
 go_upto_region 1 with fail
 generalize w.alloc (.cells #[.int .i64 3, .string ⟨#[]⟩, .string ⟨#[]⟩, .string ⟨#[]⟩, .string ⟨#[]⟩, .string (BA s), (.slice none 0 0)] 35) = W at T ⊢
 have B0 : Hid (Bx W (w.heap.size) (cellsO (.str s) (.slice none 0 0)).toArray) := by rw [ea]; exact T.b0
 have K0 := hI (hp.below T.bel)
 have HW := hI T.bel
 try rw [← vO_cells ea]
 clear T ea hp
 obtain ⟨m0, m1, m2, m3, m4, m5, m6⟩ := Bx.c B0.out
 try unfold e0 at m1
 try unfold e0 at m2
 try unfold e0 at m3
 try unfold e0 at m4
 try unfold e0 at m5
 go_wp2_with (with_reducible refine lG (.tmp 1) B0.out ?_)
 go_ret
 exact ⟨rfl, HW.out⟩
theorem formedSym (x y : List UInt8) (w : World) (hb : SyOk x y) : Calls Tryz.prog 84 #[vO (.sym x y) (.slice none 0 0)] w (RetB w true) := by
 have hp : Hd w (.sym x y) (.slice none 0 0) := rfl
 have N : Hid (∀ X, Calls Tryz.prog 108 #[.agg #[.string (BA x), .string (BA y)]] X (RetB X true)) := fun X => namedR x y hb X
 have hx3 : ¬ (BA x).toList = [] := by
  rw [BA_toList]
  rcases hb.1 with rfl | rfl <;> decide
 have hx1 : ((BA x).toList == []) = false := by rw [beq_eq_false_iff_ne]; exact hx3
 have hx2 : (BA x).toList.isEmpty = false := by rw [List.isEmpty_eq_false_iff]; exact hx3
 clear hb
 have ea : cellsO (.sym x y) (.slice none 0 0) = [.int .i64 2, .string ⟨#[]⟩, .string ⟨#[]⟩, .string (BA x), .string (BA y), .string ⟨#[]⟩, (.slice none 0 0)] := rfl
 have T := Bx1.new w #[.int .i64 2, .string ⟨#[]⟩, .string ⟨#[]⟩, .string (BA x), .string (BA y), .string ⟨#[]⟩, (.slice none 0 0)]
 rw [vO_cells ea]
 go_enter Tryz.func84, Tryz.ntmps84
 go_upto_region 1 with fail
 generalize w.alloc (.cells #[.int .i64 2, .string ⟨#[]⟩, .string ⟨#[]⟩, .string (BA x), .string (BA y), .string ⟨#[]⟩, (.slice none 0 0)] 35) = W at T ⊢
 have B0 : Hid (Bx W (w.heap.size) (cellsO (.sym x y) (.slice none 0 0)).toArray) := by rw [ea]; exact T.b0
 have K0 := hI (hp.below T.bel)
 have HW := hI T.bel
 try rw [← vO_cells ea]
 clear T ea hp
 obtain ⟨m0, m1, m2, m3, m4, m5, m6⟩ := Bx.c B0.out
 try unfold e0 at m1
 try unfold e0 at m2
 try unfold e0 at m3
 try unfold e0 at m4
 try unfold e0 at m5
 go_wp2_with (with_reducible refine lG (.tmp 1) B0.out ?_)
 with_reducible refine (N.out _).mono ?_
 rintro e w1 ⟨rfl, hb⟩
 replace B0 := kB B0 hb
 replace K0 := kH K0 hb
 replace HW := kW HW hb
 clear hb
 obtain ⟨m0, m1, m2, m3, m4, m5, m6⟩ := Bx.c B0.out
 try unfold e0 at m1
 try unfold e0 at m2
 try unfold e0 at m3
 try unfold e0 at m4
 try unfold e0 at m5
 go_wp2_with (with_reducible refine lG (.tmp 1) B0.out ?_)
 go_ret
 exact ⟨rfl, HW.out⟩
theorem formedCons (a d : Ob) (p : Value) (w : World) (hp : Hd w (.cons a d) p)
 (ca : ∀ X q, Hd X a q → Calls Tryz.prog 84 #[vO a q] X (RetB X true)) (cd : ∀ X q, Hd X d q → Calls Tryz.prog 84 #[vO d q] X (RetB X true)) :
 Calls Tryz.prog 84 #[vO (.cons a d) p] w (RetB w true) := by
 obtain ⟨b1, o1, n1, pa, pd, rfl, hn1, hA, hD⟩ := hp.cons
 have CA := hI ca
 have CD := hI cd
 clear ca cd
 have HA := hI hA
 have HD := hI hD
 clear hA hD
 have ea : cellsO (.cons a d) (.slice (some ⟨b1, o1, none⟩) 2 n1) = [.int .i64 4, .string ⟨#[]⟩, .string ⟨#[]⟩, .string ⟨#[]⟩, .string ⟨#[]⟩, .string ⟨#[]⟩, (.slice (some ⟨b1, o1, none⟩) 2 n1)] := rfl
 have T := Bx1.new w #[.int .i64 4, .string ⟨#[]⟩, .string ⟨#[]⟩, .string ⟨#[]⟩, .string ⟨#[]⟩, .string ⟨#[]⟩, (.slice (some ⟨b1, o1, none⟩) 2 n1)]
 rw [vO_cells ea]
 go_enter Tryz.func84, Tryz.ntmps84
 go_upto_region 1 with fail
 generalize w.alloc (.cells #[.int .i64 4, .string ⟨#[]⟩, .string ⟨#[]⟩, .string ⟨#[]⟩, .string ⟨#[]⟩, .string ⟨#[]⟩, (.slice (some ⟨b1, o1, none⟩) 2 n1)] 35) = W at T ⊢
 have B0 : Hid (Bx W (w.heap.size) (cellsO (.cons a d) (.slice (some ⟨b1, o1, none⟩) 2 n1)).toArray) := by rw [ea]; exact T.b0
 have K0 := hI (hp.below T.bel)
 have HW := hI T.bel
 try rw [← vO_cells ea]
 clear T ea hp
 replace HA := hI (HA.out.below HW.out)
 replace HD := hI (HD.out.below HW.out)
 obtain ⟨m0, m1, m2, m3, m4, m5, m6⟩ := Bx.c B0.out
 try unfold e0 at m1
 try unfold e0 at m2
 try unfold e0 at m3
 try unfold e0 at m4
 try unfold e0 at m5
 go_wp2_with (first | (with_reducible refine lG (.tmp 1) B0.out ?_) | ((with_reducible refine loadA ?_ ?_ HA.out ?_); exact ⟨_, rfl, rfl⟩; rfl) | ((with_reducible refine loadAG ?_ ?_ HA.out ?_); exact ⟨_, rfl, rfl⟩; rfl) | ((with_reducible refine loadA ?_ ?_ HD.out ?_); exact ⟨_, rfl, rfl⟩; rfl) | ((with_reducible refine loadAG ?_ ?_ HD.out ?_); exact ⟨_, rfl, rfl⟩; rfl))
 with_reducible refine (CA.out _ _ HA.out.hd).mono ?_
 rintro e w1 ⟨rfl, hb⟩
 replace B0 := kB B0 hb
 replace K0 := kH K0 hb
 replace HW := kW HW hb
 replace HA := hI (HA.out.below hb)
 replace HD := hI (HD.out.below hb)
 clear hb
 obtain ⟨m0, m1, m2, m3, m4, m5, m6⟩ := Bx.c B0.out
 try unfold e0 at m1
 try unfold e0 at m2
 try unfold e0 at m3
 try unfold e0 at m4
 try unfold e0 at m5
 go_wp2_with (first | (with_reducible refine lG (.tmp 1) B0.out ?_) | ((with_reducible refine loadA ?_ ?_ HA.out ?_); exact ⟨_, rfl, rfl⟩; rfl) | ((with_reducible refine loadAG ?_ ?_ HA.out ?_); exact ⟨_, rfl, rfl⟩; rfl) | ((with_reducible refine loadA ?_ ?_ HD.out ?_); exact ⟨_, rfl, rfl⟩; rfl) | ((with_reducible refine loadAG ?_ ?_ HD.out ?_); exact ⟨_, rfl, rfl⟩; rfl))
 with_reducible refine (CD.out _ _ HD.out.hd).mono ?_
 rintro e w2 ⟨rfl, hb⟩
 replace B0 := kB B0 hb
 replace K0 := kH K0 hb
 replace HW := kW HW hb
 replace HA := hI (HA.out.below hb)
 replace HD := hI (HD.out.below hb)
 clear hb
 go_wp2_with (first | (with_reducible refine lG (.tmp 1) B0.out ?_) | ((with_reducible refine loadA ?_ ?_ HA.out ?_); exact ⟨_, rfl, rfl⟩; rfl) | ((with_reducible refine loadAG ?_ ?_ HA.out ?_); exact ⟨_, rfl, rfl⟩; rfl) | ((with_reducible refine loadA ?_ ?_ HD.out ?_); exact ⟨_, rfl, rfl⟩; rfl) | ((with_reducible refine loadAG ?_ ?_ HD.out ?_); exact ⟨_, rfl, rfl⟩; rfl))
 go_ret
 exact ⟨rfl, HW.out⟩
theorem formedR : ∀ (o : Ob) (p : Value) (w : World), o.bd 90 → Hd w o p → Calls Tryz.prog 84 #[vO o p] w (RetB w true)
 | .num q, p, w, h, hp => by obtain rfl := hp.flat rfl; exact formedNum q w h
 | .str s, p, w, h, hp => by obtain rfl := hp.flat rfl; exact formedStr s w h
 | .sym x y, p, w, h, hp => by obtain rfl := hp.flat rfl; exact formedSym x y w h
 | .cons a d, p, w, h, hp => formedCons a d p w hp (fun X q hq => formedR a q X h.1 hq) (fun X q hq => formedR d q X h.2 hq)
theorem valid2R (o : Ob) (p : Value) (w : World) (hb : o.bd 90) (hn : o.nodes ≤ 3000) (hp : Hd w o p) :
 Calls Tryz.prog 62 #[vO o p] w (RetB w true) := by
 have HN := hI hn
 have HB := hI hb
 have hn1 : (o.nodes : Int) ≤ 3000 := by omega
 clear hn hb
 obtain ⟨a0, a1, a2, a3, a4, a5, ea⟩ := cells7 (o) p
 have T := Bx1.new w #[a0, a1, a2, a3, a4, a5, p]
 rw [vO_cells ea]
 go_enter Tryz.func62, Tryz.ntmps62
 go_wp2_with fail
 generalize w.alloc (.cells #[a0, a1, a2, a3, a4, a5, p] 35) = W at T ⊢
 have B0 : Hid (Bx W (w.heap.size) (cellsO (o) p).toArray) := by rw [ea]; exact T.b0
 have K0 := hI (hp.below T.bel)
 have HW := hI T.bel
 try rw [← vO_cells ea]
 clear T ea hp
 with_reducible refine (nodesR o p _ HN.out K0.out).mono ?_
 rintro e w1 ⟨rfl, hb⟩
 replace B0 := kB B0 hb
 replace K0 := kH K0 hb
 replace HW := kW HW hb
 clear hb
 go_wp2_with (with_reducible refine lG (.tmp 1) B0.out ?_)
 with_reducible refine (formedR o p _ HB.out K0.out).mono ?_
 rintro e w2 ⟨rfl, hb⟩
 replace B0 := kB B0 hb
 replace K0 := kH K0 hb
 replace HW := kW HW hb
 clear hb
 go_wp2_with (with_reducible refine lG (.tmp 1) B0.out ?_)
 go_ret
 exact ⟨rfl, HW.out⟩
theorem natF (o : Ob) (p : Value) (w : World) (hi : o.isInt = false) (hp : Hd w o p) : Calls Tryz.prog 85 #[vO o p] w (RetB w false) := by
 have I : Hid (∀ X, Calls Tryz.prog 109 #[vO o p] X (RetB X false)) := fun X => by rw [← hi]; exact isIntegerR o p X
 clear hi
 obtain ⟨a0, a1, a2, a3, a4, a5, ea⟩ := cells7 (o) p
 have T := Bx1.new w #[a0, a1, a2, a3, a4, a5, p]
 rw [vO_cells ea]
 go_enter Tryz.func85, Tryz.ntmps85
 go_wp2_with fail
 generalize w.alloc (.cells #[a0, a1, a2, a3, a4, a5, p] 35) = W at T ⊢
 have B0 : Hid (Bx W (w.heap.size) (cellsO (o) p).toArray) := by rw [ea]; exact T.b0
 have K0 := hI (hp.below T.bel)
 have HW := hI T.bel
 try rw [← vO_cells ea]
 clear T ea hp
 with_reducible refine (I.out _).mono ?_
 rintro e w1 ⟨rfl, hb⟩
 replace B0 := kB B0 hb
 replace K0 := kH K0 hb
 replace HW := kW HW hb
 clear hb
 go_wp2_with (with_reducible refine lG (.tmp 1) B0.out ?_)
 go_ret
 exact ⟨rfl, HW.out⟩
theorem natT (q : Rat) (p : Value) (w : World) (hi : q.den = 1) (hp : Hd w (.num q) p) : Calls Tryz.prog 85 #[vO (.num q) p] w (RetB w (decide (0 ≤ q.num))) := by
 have I : Hid (∀ X, Calls Tryz.prog 109 #[vO (.num q) p] X (RetB X true)) := fun X => by
  have h := isIntegerR (.num q) p X
  have e : Ob.isInt (.num q) = true := decide_eq_true hi
  rw [e] at h
  exact h
 have h0 : 0 < (nt q).size := by
  unfold nt
  rw [BA_size]
  have h := valid_text q.num
  cases ht : text q.num with
  | nil => rw [ht] at h; revert h; decide
  | cons c l => simp
 have hv := isMinus_at h0
 have hn : isMinus (LA (nt q)) = decide (q.num < 0) := by
  have h := neg_signText (decide (q.num < 0)) q.num.natAbs
  have e : neg (LA (nt q)) = isMinus (LA (nt q)) := by unfold neg; rw [show valid (LA (nt q)) = true from by unfold nt; rw [LA_BA]; exact valid_text _]; simp
  rw [← e]
  unfold nt
  rw [LA_BA]
  show neg (signText _ _) = _
  rw [h]
  by_cases hq : q.num < 0
  · rw [decide_eq_true hq]
    show (true && (q.num.natAbs != 0)) = true
    rw [Bool.true_and, bne_iff_ne]
    omega
  · rw [decide_eq_false hq]; simp
 rw [hn] at hv
 clear hn hi
 by_cases hq : q.num < 0
 · rw [decide_eq_true hq] at hv
   rw [decide_eq_false (show ¬ 0 ≤ q.num by omega)]
   have hv2 : ((((nt q)[0]'h0).toNat : Int) != 45) = false := by unfold bne; rw [hv]; rfl
   clear hq
   obtain ⟨a0, a1, a2, a3, a4, a5, ea⟩ := cells7 (.num q) p
   have T := Bx1.new w #[a0, a1, a2, a3, a4, a5, p]
   rw [vO_cells ea]
   go_enter Tryz.func85, Tryz.ntmps85
   go_wp2_with fail
   generalize w.alloc (.cells #[a0, a1, a2, a3, a4, a5, p] 35) = W at T ⊢
   have B0 : Hid (Bx W (w.heap.size) (cellsO (.num q) p).toArray) := by rw [ea]; exact T.b0
   have K0 := hI (hp.below T.bel)
   have HW := hI T.bel
   try rw [← vO_cells ea]
   clear T ea hp
   with_reducible refine (I.out _).mono ?_
   rintro e w1 ⟨rfl, hb⟩
   replace B0 := kB B0 hb
   replace K0 := kH K0 hb
   replace HW := kW HW hb
   clear hb
   obtain ⟨m0, m1, m2, m3, m4, m5, m6⟩ := Bx.c B0.out
   try unfold e0 at m1
   try unfold e0 at m2
   try unfold e0 at m3
   try unfold e0 at m4
   try unfold e0 at m5
   go_wp2_with (with_reducible refine lG (.tmp 1) B0.out ?_)
   go_ret
   exact ⟨rfl, HW.out⟩
 · rw [decide_eq_false hq] at hv
   rw [decide_eq_true (show 0 ≤ q.num by omega)]
   have hv2 : ((((nt q)[0]'h0).toNat : Int) != 45) = true := by unfold bne; rw [hv]; rfl
   clear hq
   obtain ⟨a0, a1, a2, a3, a4, a5, ea⟩ := cells7 (.num q) p
   have T := Bx1.new w #[a0, a1, a2, a3, a4, a5, p]
   rw [vO_cells ea]
   go_enter Tryz.func85, Tryz.ntmps85
   go_wp2_with fail
   generalize w.alloc (.cells #[a0, a1, a2, a3, a4, a5, p] 35) = W at T ⊢
   have B0 : Hid (Bx W (w.heap.size) (cellsO (.num q) p).toArray) := by rw [ea]; exact T.b0
   have K0 := hI (hp.below T.bel)
   have HW := hI T.bel
   try rw [← vO_cells ea]
   clear T ea hp
   with_reducible refine (I.out _).mono ?_
   rintro e w1 ⟨rfl, hb⟩
   replace B0 := kB B0 hb
   replace K0 := kH K0 hb
   replace HW := kW HW hb
   clear hb
   obtain ⟨m0, m1, m2, m3, m4, m5, m6⟩ := Bx.c B0.out
   try unfold e0 at m1
   try unfold e0 at m2
   try unfold e0 at m3
   try unfold e0 at m4
   try unfold e0 at m5
   go_wp2_with (with_reducible refine lG (.tmp 1) B0.out ?_)
   go_ret
   exact ⟨rfl, HW.out⟩
theorem nat_isSome (o : Ob) : o.nat.isSome = (o.isInt && match o with | .num q => decide (0 ≤ q.num) | _ => false) := by
 cases o with
 | num q =>
  simp only [Ob.nat, Ob.isInt]
  by_cases h1 : q.den = 1 <;> by_cases h2 : 0 ≤ q.num <;> simp [h1, h2]
 | _ => rfl
theorem naturalR (o : Ob) (p : Value) (w : World) (hp : Hd w o p) : Calls Tryz.prog 85 #[vO o p] w (RetB w o.nat.isSome) := by
 rw [nat_isSome]
 cases hi : o.isInt with
 | false => exact natF o p w hi hp
 | true =>
  cases o with
  | num q => exact natT q p w (of_decide_eq_true hi) hp
  | str s => cases hi
  | sym x y => cases hi
  | cons a d => cases hi
theorem zeroRaw (k : Int) (s1 s2 s3 s4 s5 : ByteArray) (p : Value) (w : World) : Calls Tryz.prog 39 #[.agg #[.int .i64 k, .string s1, .string s2, .string s3, .string s4, .string s5, p]] w (RetB w (k == 1 && (s1.toList == [48]))) := by
 cases h1 : (k == 1)
 · go_enter Tryz.func39, Tryz.ntmps39
   go_wp2
   go_ret
   exact ⟨rfl, aO_below w _⟩
 · cases h2 : (s1.toList == [48])
   all_goals
    go_enter Tryz.func39, Tryz.ntmps39
    go_wp2
    go_ret
    exact ⟨rfl, aO_below w _⟩
theorem oneRaw (k : Int) (s1 s2 s3 s4 s5 : ByteArray) (p : Value) (w : World) : Calls Tryz.prog 36 #[.agg #[.int .i64 k, .string s1, .string s2, .string s3, .string s4, .string s5, p]] w (RetB w (k == 1 && (s1.toList == [49]) && (s2.toList == [49]))) := by
 cases h1 : (k == 1)
 · go_enter Tryz.func36, Tryz.ntmps36
   go_wp2
   go_ret
   exact ⟨rfl, aO_below w _⟩
 · cases h2 : (s1.toList == [49])
   · go_enter Tryz.func36, Tryz.ntmps36
     go_wp2
     go_ret
     exact ⟨rfl, aO_below w _⟩
   · cases h3 : (s2.toList == [49])
     all_goals
      go_enter Tryz.func36, Tryz.ntmps36
      go_wp2
      go_ret
      exact ⟨rfl, aO_below w _⟩
theorem zeroR (o : Ob) (p : Value) (w : World) (v : Bool) (h : o.numIs 0 = v) : Calls Tryz.prog 39 #[vO o p] w (RetB w v) := by
 subst h
 cases o with
 | num q =>
  have := zeroRaw 1 (nt q) (dt q) ⟨#[]⟩ ⟨#[]⟩ ⟨#[]⟩ p w
  rw [nt_lit q 0 [48] (by decide)] at this
  exact this
 | str s => exact zeroRaw 3 _ _ _ _ _ p w
 | sym x y => exact zeroRaw 2 _ _ _ _ _ p w
 | cons a d => exact zeroRaw 4 _ _ _ _ _ p w
theorem oneR (a : On) (p : Value) (w : World) : Calls Tryz.prog 36 #[vO a.ob p] w (RetB w (decide (a = .fin 1))) := by
 cases a with
 | fin n =>
  have h := oneRaw 1 (nt (n : Rat)) (dt (n : Rat)) ⟨#[]⟩ ⟨#[]⟩ ⟨#[]⟩ p w
  rw [nt_lit (n : Rat) 1 [49] (by decide)] at h
  have he : dt (n : Rat) = ⟨#[49]⟩ := by unfold dt; rw [Rat.den_natCast]; decide
  have hd : ((dt (n : Rat)).toList == [49]) = true := by rw [he, show (⟨#[49]⟩ : ByteArray) = BA [49] from rfl, BA_toList]; rfl
  have hn : decide ((n : Rat).num = 1) = decide (On.fin n = .fin 1) := On.numIs (.fin n) 1
  rw [hd, hn] at h
  have e3 : ((1 : Int) == 1 && decide (On.fin n = .fin 1) && true) = decide (On.fin n = .fin 1) := by simp
  rw [e3] at h
  exact h
 | pw e c r =>
  have h := oneRaw 4 ⟨#[]⟩ ⟨#[]⟩ ⟨#[]⟩ ⟨#[]⟩ ⟨#[]⟩ p w
  rw [decide_eq_false (fun e => by cases e)]
  exact h
def Ob.inf : Ob → Bool
 | .cons a _ => a.isCons
 | _ => false
theorem infF (o : Ob) (p : Value) (w : World) (hi : o.isCons = false) (hp : Hd w o p) : Calls Tryz.prog 35 #[vO o p] w (RetB w false) := by
 have I : Hid (∀ X, Hd X o p → Calls Tryz.prog 64 #[vO o p] X (RetB X false)) := fun X h => by rw [← hi]; exact isConsR o p X (Has X) h.pair
 clear hi
 obtain ⟨a0, a1, a2, a3, a4, a5, ea⟩ := cells7 (o) p
 have T := Bx1.new w #[a0, a1, a2, a3, a4, a5, p]
 rw [vO_cells ea]
 go_enter Tryz.func35, Tryz.ntmps35
 go_wp2_with fail
 generalize w.alloc (.cells #[a0, a1, a2, a3, a4, a5, p] 35) = W at T ⊢
 have B0 : Hid (Bx W (w.heap.size) (cellsO (o) p).toArray) := by rw [ea]; exact T.b0
 have K0 := hI (hp.below T.bel)
 have HW := hI T.bel
 try rw [← vO_cells ea]
 clear T ea hp
 with_reducible refine (I.out _ K0.out).mono ?_
 rintro e w1 ⟨rfl, hb⟩
 replace B0 := kB B0 hb
 replace K0 := kH K0 hb
 replace HW := kW HW hb
 clear hb
 go_wp2_with (with_reducible refine lG (.tmp 1) B0.out ?_)
 go_ret
 exact ⟨rfl, HW.out⟩
theorem infC (a d : Ob) (p : Value) (w : World) (hp : Hd w (.cons a d) p) : Calls Tryz.prog 35 #[vO (.cons a d) p] w (RetB w a.isCons) := by
 obtain ⟨b1, o1, n1, pa, pd, rfl, hn1, hA, hD⟩ := hp.cons
 have HA := hI hA
 clear hA hD
 have ea : cellsO (.cons a d) (.slice (some ⟨b1, o1, none⟩) 2 n1) = [.int .i64 4, .string ⟨#[]⟩, .string ⟨#[]⟩, .string ⟨#[]⟩, .string ⟨#[]⟩, .string ⟨#[]⟩, (.slice (some ⟨b1, o1, none⟩) 2 n1)] := rfl
 have T := Bx1.new w #[.int .i64 4, .string ⟨#[]⟩, .string ⟨#[]⟩, .string ⟨#[]⟩, .string ⟨#[]⟩, .string ⟨#[]⟩, (.slice (some ⟨b1, o1, none⟩) 2 n1)]
 rw [vO_cells ea]
 go_enter Tryz.func35, Tryz.ntmps35
 go_upto_region 1 with fail
 generalize w.alloc (.cells #[.int .i64 4, .string ⟨#[]⟩, .string ⟨#[]⟩, .string ⟨#[]⟩, .string ⟨#[]⟩, .string ⟨#[]⟩, (.slice (some ⟨b1, o1, none⟩) 2 n1)] 35) = W at T ⊢
 have B0 : Hid (Bx W (w.heap.size) (cellsO (.cons a d) (.slice (some ⟨b1, o1, none⟩) 2 n1)).toArray) := by rw [ea]; exact T.b0
 have K0 := hI (hp.below T.bel)
 have HW := hI T.bel
 try rw [← vO_cells ea]
 clear T ea hp
 replace HA := hI (HA.out.below HW.out)
 obtain ⟨m0, m1, m2, m3, m4, m5, m6⟩ := Bx.c B0.out
 try unfold e0 at m1
 try unfold e0 at m2
 try unfold e0 at m3
 try unfold e0 at m4
 try unfold e0 at m5
 go_wp2_with (first | (with_reducible refine lG (.tmp 1) B0.out ?_) | ((with_reducible refine loadA ?_ ?_ HA.out ?_); exact ⟨_, rfl, rfl⟩; rfl) | ((with_reducible refine loadAG ?_ ?_ HA.out ?_); exact ⟨_, rfl, rfl⟩; rfl))
 with_reducible refine (isConsR (.cons a d) _ _ (Has _) K0.out.pair).mono ?_
 rintro e w1 ⟨rfl, hb⟩
 replace B0 := kB B0 hb
 replace K0 := kH K0 hb
 replace HW := kW HW hb
 replace HA := hI (HA.out.below hb)
 clear hb
 obtain ⟨m0, m1, m2, m3, m4, m5, m6⟩ := Bx.c B0.out
 try unfold e0 at m1
 try unfold e0 at m2
 try unfold e0 at m3
 try unfold e0 at m4
 try unfold e0 at m5
 go_wp2_with (first | (with_reducible refine lG (.tmp 1) B0.out ?_) | ((with_reducible refine loadA ?_ ?_ HA.out ?_); exact ⟨_, rfl, rfl⟩; rfl) | ((with_reducible refine loadAG ?_ ?_ HA.out ?_); exact ⟨_, rfl, rfl⟩; rfl))
 with_reducible refine (isConsR a pa _ (Has _) HA.out.hd.pair).mono ?_
 rintro e w2 ⟨rfl, hb⟩
 replace B0 := kB B0 hb
 replace K0 := kH K0 hb
 replace HW := kW HW hb
 replace HA := hI (HA.out.below hb)
 clear hb
 go_wp2_with (first | (with_reducible refine lG (.tmp 1) B0.out ?_) | ((with_reducible refine loadA ?_ ?_ HA.out ?_); exact ⟨_, rfl, rfl⟩; rfl) | ((with_reducible refine loadAG ?_ ?_ HA.out ?_); exact ⟨_, rfl, rfl⟩; rfl))
 go_ret
 exact ⟨rfl, HW.out⟩
theorem infR (o : Ob) (p : Value) (w : World) (v : Bool) (h : o.inf = v) (hp : Hd w o p) : Calls Tryz.prog 35 #[vO o p] w (RetB w v) := by
 subst h
 cases o with
 | cons a d => exact infC a d p w hp
 | num q => exact infF _ p w rfl hp
 | str s => exact infF _ p w rfl hp
 | sym x y => exact infF _ p w rfl hp
theorem expF (o : Ob) (p : Value) (w : World) (hi : o.inf = false) (hp : Hd w o p) (ht : Tab w) : Calls Tryz.prog 37 #[vO o p] w (RetH w (.num ((0 : Int) : Rat))) := by
 obtain ⟨a0, a1, a2, a3, a4, a5, ea⟩ := cells7 (o) p
 have T := Bx2.new w #[a0, a1, a2, a3, a4, a5, p] #[.int .i64 0, .string ⟨#[]⟩, .string ⟨#[]⟩, .string ⟨#[]⟩, .string ⟨#[]⟩, .string ⟨#[]⟩, .slice none 0 0]
 rw [vO_cells ea]
 go_enter Tryz.func37, Tryz.ntmps37
 go_wp2_with fail
 generalize (w.alloc (.cells #[a0, a1, a2, a3, a4, a5, p] 35)).alloc (.cells #[.int .i64 0, .string ⟨#[]⟩, .string ⟨#[]⟩, .string ⟨#[]⟩, .string ⟨#[]⟩, .string ⟨#[]⟩, .slice none 0 0] 35) = W at T ⊢
 have B0 : Hid (Bx W (w.heap.size) (cellsO (o) p).toArray) := by rw [ea]; exact T.b0
 have K0 := hI (hp.below T.bel)
 have R0 := hI T.b1
 have HW := hI T.bel
 have HT := hI (ht.below T.bel)
 try rw [← vO_cells ea]
 clear T ea hp ht
 with_reducible refine (infR o p _ false hi K0.out).mono ?_
 rintro e w1 ⟨rfl, hb⟩
 replace B0 := kB B0 hb
 replace K0 := kH K0 hb
 replace R0 := kB R0 hb
 replace HW := kW HW hb
 replace HT := kT HT hb
 clear hb
 go_wp2_with (with_reducible refine lG (.tmp 1) B0.out ?_)
 with_reducible refine (int0RH _ HT.out).mono ?_
 rintro e w2 ⟨q, rfl, k, hb⟩
 replace B0 := kB B0 hb
 replace K0 := kH K0 hb
 replace R0 := kB R0 hb
 replace HW := kW HW hb
 replace HT := kT HT hb
 clear hb
 replace k := hI k
 go_wp2_with (first | (with_reducible refine sB (.tmp 2) (.tmp 12) k.out R0.out ?_) | (with_reducible refine lG (.tmp 1) B0.out ?_))
 exact retHs rfl rfl R0.out rfl k.out (by omega) HW.out
theorem expC (e c r : Ob) (p : Value) (w : World) (hp : Hd w (.cons (.cons e c) r) p) : Calls Tryz.prog 37 #[vO (.cons (.cons e c) r) p] w (RetH w e) := by
 obtain ⟨b1, o1, n1, pa, pd, rfl, hn1, hA, hD⟩ := hp.cons
 obtain ⟨b2, o2, n2, pe, pc, rfl, hn2, hE, hC⟩ := hA.hd.cons
 have HA := hI hA
 have HC := hI hC
 have HD := hI hD
 have HE := hI hE
 clear hA hC hD hE
 have ea : cellsO (.cons (.cons e c) r) (.slice (some ⟨b1, o1, none⟩) 2 n1) = [.int .i64 4, .string ⟨#[]⟩, .string ⟨#[]⟩, .string ⟨#[]⟩, .string ⟨#[]⟩, .string ⟨#[]⟩, (.slice (some ⟨b1, o1, none⟩) 2 n1)] := rfl
 have T := Bx2.new w #[.int .i64 4, .string ⟨#[]⟩, .string ⟨#[]⟩, .string ⟨#[]⟩, .string ⟨#[]⟩, .string ⟨#[]⟩, (.slice (some ⟨b1, o1, none⟩) 2 n1)] #[.int .i64 0, .string ⟨#[]⟩, .string ⟨#[]⟩, .string ⟨#[]⟩, .string ⟨#[]⟩, .string ⟨#[]⟩, .slice none 0 0]
 rw [vO_cells ea]
 go_enter Tryz.func37, Tryz.ntmps37
 go_upto_region 1 with fail
 generalize (w.alloc (.cells #[.int .i64 4, .string ⟨#[]⟩, .string ⟨#[]⟩, .string ⟨#[]⟩, .string ⟨#[]⟩, .string ⟨#[]⟩, (.slice (some ⟨b1, o1, none⟩) 2 n1)] 35)).alloc (.cells #[.int .i64 0, .string ⟨#[]⟩, .string ⟨#[]⟩, .string ⟨#[]⟩, .string ⟨#[]⟩, .string ⟨#[]⟩, .slice none 0 0] 35) = W at T ⊢
 have B0 : Hid (Bx W (w.heap.size) (cellsO (.cons (.cons e c) r) (.slice (some ⟨b1, o1, none⟩) 2 n1)).toArray) := by rw [ea]; exact T.b0
 have K0 := hI (hp.below T.bel)
 have R0 := hI T.b1
 have HW := hI T.bel
 try rw [← vO_cells ea]
 clear T ea hp
 replace HA := hI (HA.out.below HW.out)
 replace HC := hI (HC.out.below HW.out)
 replace HD := hI (HD.out.below HW.out)
 replace HE := hI (HE.out.below HW.out)
 go_wp2_with (first | (with_reducible refine lG (.tmp 1) B0.out ?_) | ((with_reducible refine loadA ?_ ?_ HA.out ?_); exact ⟨_, rfl, rfl⟩; rfl) | ((with_reducible refine loadAG ?_ ?_ HA.out ?_); exact ⟨_, rfl, rfl⟩; rfl) | ((with_reducible refine loadA ?_ ?_ HC.out ?_); exact ⟨_, rfl, rfl⟩; rfl) | ((with_reducible refine loadAG ?_ ?_ HC.out ?_); exact ⟨_, rfl, rfl⟩; rfl) | ((with_reducible refine loadA ?_ ?_ HD.out ?_); exact ⟨_, rfl, rfl⟩; rfl) | ((with_reducible refine loadAG ?_ ?_ HD.out ?_); exact ⟨_, rfl, rfl⟩; rfl) | ((with_reducible refine loadA ?_ ?_ HE.out ?_); exact ⟨_, rfl, rfl⟩; rfl) | ((with_reducible refine loadAG ?_ ?_ HE.out ?_); exact ⟨_, rfl, rfl⟩; rfl))
 with_reducible refine (infR (.cons (.cons e c) r) _ _ true rfl K0.out).mono ?_
 rintro e w1 ⟨rfl, hb⟩
 replace B0 := kB B0 hb
 replace K0 := kH K0 hb
 replace R0 := kB R0 hb
 replace HW := kW HW hb
 replace HA := hI (HA.out.below hb)
 replace HC := hI (HC.out.below hb)
 replace HD := hI (HD.out.below hb)
 replace HE := hI (HE.out.below hb)
 clear hb
 obtain ⟨m0, m1, m2, m3, m4, m5, m6⟩ := Bx.c B0.out
 try unfold e0 at m1
 try unfold e0 at m2
 try unfold e0 at m3
 try unfold e0 at m4
 try unfold e0 at m5
 have l6 := HA.out.last
 have kx := hI HE.out.hd
 go_wp2_with (first | (with_reducible refine sB (.tmp 2) (.tmp 11) kx.out R0.out ?_) | (with_reducible refine lG (.tmp 1) B0.out ?_) | ((with_reducible refine loadA ?_ ?_ HA.out ?_); exact ⟨_, rfl, rfl⟩; rfl) | ((with_reducible refine loadAG ?_ ?_ HA.out ?_); exact ⟨_, rfl, rfl⟩; rfl) | ((with_reducible refine loadA ?_ ?_ HC.out ?_); exact ⟨_, rfl, rfl⟩; rfl) | ((with_reducible refine loadAG ?_ ?_ HC.out ?_); exact ⟨_, rfl, rfl⟩; rfl) | ((with_reducible refine loadA ?_ ?_ HD.out ?_); exact ⟨_, rfl, rfl⟩; rfl) | ((with_reducible refine loadAG ?_ ?_ HD.out ?_); exact ⟨_, rfl, rfl⟩; rfl) | ((with_reducible refine loadA ?_ ?_ HE.out ?_); exact ⟨_, rfl, rfl⟩; rfl) | ((with_reducible refine loadAG ?_ ?_ HE.out ?_); exact ⟨_, rfl, rfl⟩; rfl))
 exact retHs rfl rfl R0.out rfl kx.out (by omega) HW.out
theorem coeF (o : Ob) (p : Value) (w : World) (hi : o.inf = false) (hp : Hd w o p) (ht : Tab w) : Calls Tryz.prog 38 #[vO o p] w (RetH w (o)) := by
 obtain ⟨a0, a1, a2, a3, a4, a5, ea⟩ := cells7 (o) p
 have T := Bx2.new w #[a0, a1, a2, a3, a4, a5, p] #[.int .i64 0, .string ⟨#[]⟩, .string ⟨#[]⟩, .string ⟨#[]⟩, .string ⟨#[]⟩, .string ⟨#[]⟩, .slice none 0 0]
 rw [vO_cells ea]
 go_enter Tryz.func38, Tryz.ntmps38
 go_wp2_with fail
 generalize (w.alloc (.cells #[a0, a1, a2, a3, a4, a5, p] 35)).alloc (.cells #[.int .i64 0, .string ⟨#[]⟩, .string ⟨#[]⟩, .string ⟨#[]⟩, .string ⟨#[]⟩, .string ⟨#[]⟩, .slice none 0 0] 35) = W at T ⊢
 have B0 : Hid (Bx W (w.heap.size) (cellsO (o) p).toArray) := by rw [ea]; exact T.b0
 have K0 := hI (hp.below T.bel)
 have R0 := hI T.b1
 have HW := hI T.bel
 try rw [← vO_cells ea]
 clear T ea hp
 with_reducible refine (infR o p _ false hi K0.out).mono ?_
 rintro e w1 ⟨rfl, hb⟩
 replace B0 := kB B0 hb
 replace K0 := kH K0 hb
 replace R0 := kB R0 hb
 replace HW := kW HW hb
 clear hb
 go_wp2_with (first | (with_reducible refine sB (.tmp 2) (.tmp 12) K0.out R0.out ?_) | (with_reducible refine lG (.tmp 1) B0.out ?_))
 exact retHs rfl rfl R0.out rfl K0.out (by omega) HW.out
theorem coeC (e c r : Ob) (p : Value) (w : World) (hp : Hd w (.cons (.cons e c) r) p) : Calls Tryz.prog 38 #[vO (.cons (.cons e c) r) p] w (RetH w c) := by
 obtain ⟨b1, o1, n1, pa, pd, rfl, hn1, hA, hD⟩ := hp.cons
 obtain ⟨b2, o2, n2, pe, pc, rfl, hn2, hE, hC⟩ := hA.hd.cons
 have HA := hI hA
 have HC := hI hC
 have HD := hI hD
 have HE := hI hE
 clear hA hC hD hE
 have ea : cellsO (.cons (.cons e c) r) (.slice (some ⟨b1, o1, none⟩) 2 n1) = [.int .i64 4, .string ⟨#[]⟩, .string ⟨#[]⟩, .string ⟨#[]⟩, .string ⟨#[]⟩, .string ⟨#[]⟩, (.slice (some ⟨b1, o1, none⟩) 2 n1)] := rfl
 have T := Bx2.new w #[.int .i64 4, .string ⟨#[]⟩, .string ⟨#[]⟩, .string ⟨#[]⟩, .string ⟨#[]⟩, .string ⟨#[]⟩, (.slice (some ⟨b1, o1, none⟩) 2 n1)] #[.int .i64 0, .string ⟨#[]⟩, .string ⟨#[]⟩, .string ⟨#[]⟩, .string ⟨#[]⟩, .string ⟨#[]⟩, .slice none 0 0]
 rw [vO_cells ea]
 go_enter Tryz.func38, Tryz.ntmps38
 go_upto_region 1 with fail
 generalize (w.alloc (.cells #[.int .i64 4, .string ⟨#[]⟩, .string ⟨#[]⟩, .string ⟨#[]⟩, .string ⟨#[]⟩, .string ⟨#[]⟩, (.slice (some ⟨b1, o1, none⟩) 2 n1)] 35)).alloc (.cells #[.int .i64 0, .string ⟨#[]⟩, .string ⟨#[]⟩, .string ⟨#[]⟩, .string ⟨#[]⟩, .string ⟨#[]⟩, .slice none 0 0] 35) = W at T ⊢
 have B0 : Hid (Bx W (w.heap.size) (cellsO (.cons (.cons e c) r) (.slice (some ⟨b1, o1, none⟩) 2 n1)).toArray) := by rw [ea]; exact T.b0
 have K0 := hI (hp.below T.bel)
 have R0 := hI T.b1
 have HW := hI T.bel
 try rw [← vO_cells ea]
 clear T ea hp
 replace HA := hI (HA.out.below HW.out)
 replace HC := hI (HC.out.below HW.out)
 replace HD := hI (HD.out.below HW.out)
 replace HE := hI (HE.out.below HW.out)
 go_wp2_with (first | (with_reducible refine lG (.tmp 1) B0.out ?_) | ((with_reducible refine loadA ?_ ?_ HA.out ?_); exact ⟨_, rfl, rfl⟩; rfl) | ((with_reducible refine loadAG ?_ ?_ HA.out ?_); exact ⟨_, rfl, rfl⟩; rfl) | ((with_reducible refine loadA ?_ ?_ HC.out ?_); exact ⟨_, rfl, rfl⟩; rfl) | ((with_reducible refine loadAG ?_ ?_ HC.out ?_); exact ⟨_, rfl, rfl⟩; rfl) | ((with_reducible refine loadA ?_ ?_ HD.out ?_); exact ⟨_, rfl, rfl⟩; rfl) | ((with_reducible refine loadAG ?_ ?_ HD.out ?_); exact ⟨_, rfl, rfl⟩; rfl) | ((with_reducible refine loadA ?_ ?_ HE.out ?_); exact ⟨_, rfl, rfl⟩; rfl) | ((with_reducible refine loadAG ?_ ?_ HE.out ?_); exact ⟨_, rfl, rfl⟩; rfl))
 with_reducible refine (infR (.cons (.cons e c) r) _ _ true rfl K0.out).mono ?_
 rintro e w1 ⟨rfl, hb⟩
 replace B0 := kB B0 hb
 replace K0 := kH K0 hb
 replace R0 := kB R0 hb
 replace HW := kW HW hb
 replace HA := hI (HA.out.below hb)
 replace HC := hI (HC.out.below hb)
 replace HD := hI (HD.out.below hb)
 replace HE := hI (HE.out.below hb)
 clear hb
 obtain ⟨m0, m1, m2, m3, m4, m5, m6⟩ := Bx.c B0.out
 try unfold e0 at m1
 try unfold e0 at m2
 try unfold e0 at m3
 try unfold e0 at m4
 try unfold e0 at m5
 have l6 := HA.out.last
 have kx := hI HC.out.hd
 go_wp2_with (first | (with_reducible refine sB (.tmp 2) (.tmp 11) kx.out R0.out ?_) | (with_reducible refine lG (.tmp 1) B0.out ?_) | ((with_reducible refine loadA ?_ ?_ HA.out ?_); exact ⟨_, rfl, rfl⟩; rfl) | ((with_reducible refine loadAG ?_ ?_ HA.out ?_); exact ⟨_, rfl, rfl⟩; rfl) | ((with_reducible refine loadA ?_ ?_ HC.out ?_); exact ⟨_, rfl, rfl⟩; rfl) | ((with_reducible refine loadAG ?_ ?_ HC.out ?_); exact ⟨_, rfl, rfl⟩; rfl) | ((with_reducible refine loadA ?_ ?_ HD.out ?_); exact ⟨_, rfl, rfl⟩; rfl) | ((with_reducible refine loadAG ?_ ?_ HD.out ?_); exact ⟨_, rfl, rfl⟩; rfl) | ((with_reducible refine loadA ?_ ?_ HE.out ?_); exact ⟨_, rfl, rfl⟩; rfl) | ((with_reducible refine loadAG ?_ ?_ HE.out ?_); exact ⟨_, rfl, rfl⟩; rfl))
 exact retHs rfl rfl R0.out rfl kx.out (by omega) HW.out
theorem rstF (o : Ob) (p : Value) (w : World) (hi : o.inf = false) (hp : Hd w o p) (ht : Tab w) : Calls Tryz.prog 40 #[vO o p] w (RetH w (.num ((0 : Int) : Rat))) := by
 obtain ⟨a0, a1, a2, a3, a4, a5, ea⟩ := cells7 (o) p
 have T := Bx2.new w #[a0, a1, a2, a3, a4, a5, p] #[.int .i64 0, .string ⟨#[]⟩, .string ⟨#[]⟩, .string ⟨#[]⟩, .string ⟨#[]⟩, .string ⟨#[]⟩, .slice none 0 0]
 rw [vO_cells ea]
 go_enter Tryz.func40, Tryz.ntmps40
 go_wp2_with fail
 generalize (w.alloc (.cells #[a0, a1, a2, a3, a4, a5, p] 35)).alloc (.cells #[.int .i64 0, .string ⟨#[]⟩, .string ⟨#[]⟩, .string ⟨#[]⟩, .string ⟨#[]⟩, .string ⟨#[]⟩, .slice none 0 0] 35) = W at T ⊢
 have B0 : Hid (Bx W (w.heap.size) (cellsO (o) p).toArray) := by rw [ea]; exact T.b0
 have K0 := hI (hp.below T.bel)
 have R0 := hI T.b1
 have HW := hI T.bel
 have HT := hI (ht.below T.bel)
 try rw [← vO_cells ea]
 clear T ea hp ht
 with_reducible refine (infR o p _ false hi K0.out).mono ?_
 rintro e w1 ⟨rfl, hb⟩
 replace B0 := kB B0 hb
 replace K0 := kH K0 hb
 replace R0 := kB R0 hb
 replace HW := kW HW hb
 replace HT := kT HT hb
 clear hb
 go_wp2_with (with_reducible refine lG (.tmp 1) B0.out ?_)
 with_reducible refine (int0RH _ HT.out).mono ?_
 rintro e w2 ⟨q, rfl, k, hb⟩
 replace B0 := kB B0 hb
 replace K0 := kH K0 hb
 replace R0 := kB R0 hb
 replace HW := kW HW hb
 replace HT := kT HT hb
 clear hb
 replace k := hI k
 go_wp2_with (first | (with_reducible refine sB (.tmp 2) (.tmp 9) k.out R0.out ?_) | (with_reducible refine lG (.tmp 1) B0.out ?_))
 exact retHs rfl rfl R0.out rfl k.out (by omega) HW.out
theorem rstC (e c r : Ob) (p : Value) (w : World) (hp : Hd w (.cons (.cons e c) r) p) : Calls Tryz.prog 40 #[vO (.cons (.cons e c) r) p] w (RetH w r) := by
 obtain ⟨b1, o1, n1, pa, pd, rfl, hn1, hA, hD⟩ := hp.cons
 obtain ⟨b2, o2, n2, pe, pc, rfl, hn2, hE, hC⟩ := hA.hd.cons
 have HA := hI hA
 have HC := hI hC
 have HD := hI hD
 have HE := hI hE
 clear hA hC hD hE
 have ea : cellsO (.cons (.cons e c) r) (.slice (some ⟨b1, o1, none⟩) 2 n1) = [.int .i64 4, .string ⟨#[]⟩, .string ⟨#[]⟩, .string ⟨#[]⟩, .string ⟨#[]⟩, .string ⟨#[]⟩, (.slice (some ⟨b1, o1, none⟩) 2 n1)] := rfl
 have T := Bx2.new w #[.int .i64 4, .string ⟨#[]⟩, .string ⟨#[]⟩, .string ⟨#[]⟩, .string ⟨#[]⟩, .string ⟨#[]⟩, (.slice (some ⟨b1, o1, none⟩) 2 n1)] #[.int .i64 0, .string ⟨#[]⟩, .string ⟨#[]⟩, .string ⟨#[]⟩, .string ⟨#[]⟩, .string ⟨#[]⟩, .slice none 0 0]
 rw [vO_cells ea]
 go_enter Tryz.func40, Tryz.ntmps40
 go_upto_region 1 with fail
 generalize (w.alloc (.cells #[.int .i64 4, .string ⟨#[]⟩, .string ⟨#[]⟩, .string ⟨#[]⟩, .string ⟨#[]⟩, .string ⟨#[]⟩, (.slice (some ⟨b1, o1, none⟩) 2 n1)] 35)).alloc (.cells #[.int .i64 0, .string ⟨#[]⟩, .string ⟨#[]⟩, .string ⟨#[]⟩, .string ⟨#[]⟩, .string ⟨#[]⟩, .slice none 0 0] 35) = W at T ⊢
 have B0 : Hid (Bx W (w.heap.size) (cellsO (.cons (.cons e c) r) (.slice (some ⟨b1, o1, none⟩) 2 n1)).toArray) := by rw [ea]; exact T.b0
 have K0 := hI (hp.below T.bel)
 have R0 := hI T.b1
 have HW := hI T.bel
 try rw [← vO_cells ea]
 clear T ea hp
 replace HA := hI (HA.out.below HW.out)
 replace HC := hI (HC.out.below HW.out)
 replace HD := hI (HD.out.below HW.out)
 replace HE := hI (HE.out.below HW.out)
 go_wp2_with (first | (with_reducible refine lG (.tmp 1) B0.out ?_) | ((with_reducible refine loadA ?_ ?_ HA.out ?_); exact ⟨_, rfl, rfl⟩; rfl) | ((with_reducible refine loadAG ?_ ?_ HA.out ?_); exact ⟨_, rfl, rfl⟩; rfl) | ((with_reducible refine loadA ?_ ?_ HC.out ?_); exact ⟨_, rfl, rfl⟩; rfl) | ((with_reducible refine loadAG ?_ ?_ HC.out ?_); exact ⟨_, rfl, rfl⟩; rfl) | ((with_reducible refine loadA ?_ ?_ HD.out ?_); exact ⟨_, rfl, rfl⟩; rfl) | ((with_reducible refine loadAG ?_ ?_ HD.out ?_); exact ⟨_, rfl, rfl⟩; rfl) | ((with_reducible refine loadA ?_ ?_ HE.out ?_); exact ⟨_, rfl, rfl⟩; rfl) | ((with_reducible refine loadAG ?_ ?_ HE.out ?_); exact ⟨_, rfl, rfl⟩; rfl))
 with_reducible refine (infR (.cons (.cons e c) r) _ _ true rfl K0.out).mono ?_
 rintro e w1 ⟨rfl, hb⟩
 replace B0 := kB B0 hb
 replace K0 := kH K0 hb
 replace R0 := kB R0 hb
 replace HW := kW HW hb
 replace HA := hI (HA.out.below hb)
 replace HC := hI (HC.out.below hb)
 replace HD := hI (HD.out.below hb)
 replace HE := hI (HE.out.below hb)
 clear hb
 obtain ⟨m0, m1, m2, m3, m4, m5, m6⟩ := Bx.c B0.out
 try unfold e0 at m1
 try unfold e0 at m2
 try unfold e0 at m3
 try unfold e0 at m4
 try unfold e0 at m5
 have l6 := HA.out.last
 have kx := hI HD.out.hd
 go_wp2_with (first | (with_reducible refine sB (.tmp 2) (.tmp 8) kx.out R0.out ?_) | (with_reducible refine lG (.tmp 1) B0.out ?_) | ((with_reducible refine loadA ?_ ?_ HA.out ?_); exact ⟨_, rfl, rfl⟩; rfl) | ((with_reducible refine loadAG ?_ ?_ HA.out ?_); exact ⟨_, rfl, rfl⟩; rfl) | ((with_reducible refine loadA ?_ ?_ HC.out ?_); exact ⟨_, rfl, rfl⟩; rfl) | ((with_reducible refine loadAG ?_ ?_ HC.out ?_); exact ⟨_, rfl, rfl⟩; rfl) | ((with_reducible refine loadA ?_ ?_ HD.out ?_); exact ⟨_, rfl, rfl⟩; rfl) | ((with_reducible refine loadAG ?_ ?_ HD.out ?_); exact ⟨_, rfl, rfl⟩; rfl) | ((with_reducible refine loadA ?_ ?_ HE.out ?_); exact ⟨_, rfl, rfl⟩; rfl) | ((with_reducible refine loadAG ?_ ?_ HE.out ?_); exact ⟨_, rfl, rfl⟩; rfl))
 exact retHs rfl rfl R0.out rfl kx.out (by omega) HW.out
theorem expE (a : On) (p : Value) (w : World) (hp : Hd w a.ob p) (ht : Tab w) : Calls Tryz.prog 37 #[vO a.ob p] w (RetH w a.exp.ob) := by
 cases a with
 | fin n => exact expF _ p w rfl hp ht
 | pw e c r => exact expC e.ob (.num (c : Rat)) r.ob p w hp
theorem coeE (a : On) (p : Value) (w : World) (hp : Hd w a.ob p) (ht : Tab w) : Calls Tryz.prog 38 #[vO a.ob p] w (RetH w (.num (a.coef : Rat))) := by
 cases a with
 | fin n => exact coeF _ p w rfl hp ht
 | pw e c r => exact coeC e.ob (.num (c : Rat)) r.ob p w hp
theorem rstE (a : On) (p : Value) (w : World) (hp : Hd w a.ob p) (ht : Tab w) : Calls Tryz.prog 40 #[vO a.ob p] w (RetH w a.rest.ob) := by
 cases a with
 | fin n => exact rstF _ p w rfl hp ht
 | pw e c r => exact rstC e.ob (.num (c : Rat)) r.ob p w hp
theorem alloc_setRow (w : World) (o : Obj) (g : Nat) (cs : Array Value) (h : g < w.heap.size) : (w.alloc o).setRow g cs = (w.setRow g cs).alloc o := by
 unfold World.setRow World.alloc
 congr 1
 apply Array.ext_getElem?
 intro k
 rw [Array.getElem?_modify]
 by_cases hk : g = k
 · subst hk
   rw [if_pos rfl, Array.getElem?_push, if_neg (by omega), Array.getElem?_push, if_neg (by rw [Array.size_modify]; omega), Array.getElem?_modify, if_pos rfl]
 · rw [if_neg hk, Array.getElem?_push, Array.getElem?_push, Array.size_modify]
   by_cases h2 : k = w.heap.size
   · rw [if_pos h2, if_pos h2]
   · rw [if_neg h2, if_neg h2, Array.getElem?_modify, if_neg hk]
def stW (f : Nat → Nat × Array Value) (w : World) : Nat → World
 | 0 => w
 | t + 1 => (stW f w t).setRow (f t).1 (f t).2
theorem stW_size (f : Nat → Nat × Array Value) (w : World) : ∀ t, (stW f w t).heap.size = w.heap.size
 | 0 => rfl
 | t + 1 => by show ((stW f w t).setRow _ _).heap.size = _; rw [size_setRow, stW_size f w t]
theorem stW_other (f : Nat → Nat × Array Value) (w : World) (b : Nat) : ∀ t, (∀ s, s < t → (f s).1 ≠ b) → (stW f w t).heap[b]? = w.heap[b]?
 | 0, _ => rfl
 | t + 1, h => by
  show ((stW f w t).setRow _ _).heap[b]? = _
  rw [setRow_other _ _ _ _ (fun e => h t (by omega) e.symm), stW_other f w b t (fun s hs => h s (by omega))]
theorem stW_alloc (f : Nat → Nat × Array Value) (w : World) (o : Obj) : ∀ t, (∀ s, s < t → (f s).1 < w.heap.size) → stW f (w.alloc o) t = (stW f w t).alloc o
 | 0, _ => rfl
 | t + 1, h => by
  show (stW f (w.alloc o) t).setRow _ _ = ((stW f w t).setRow _ _).alloc o
  rw [stW_alloc f w o t (fun s hs => h s (by omega)), alloc_setRow _ _ _ _ (by rw [stW_size]; exact h t (by omega))]
theorem stW_congr {f f' : Nat → Nat × Array Value} (w : World) : ∀ t, (∀ s, s < t → f s = f' s) → stW f w t = stW f' w t
 | 0, _ => rfl
 | t + 1, h => by
  show (stW f w t).setRow _ _ = (stW f' w t).setRow _ _
  rw [stW_congr w t (fun s hs => h s (by omega)), h t (by omega)]
def stF (lo : Nat → Nat) (kb : Nat → Nat) (ob : Nat → Ob) (ps : Nat → Value) (s : Nat) : Nat × Array Value := (lo (kb s), (cellsO (ob s) (ps s)).toArray)
structure StOk (w0 : World) (n : Nat) (kb kv : Nat → Nat) (ob : Nat → Ob) (ops : Array Oper) (listed : Array Bool) (t : Nat) (v : Nat → Value) (lo : Nat → Nat) (ps : Nat → Value) (w1 : World) : Prop where
 box : ∀ s, s < t → v (kb s) = .pointer (some ⟨lo (kb s), 0, none⟩) ∧ Bx w1 (lo (kb s)) zeroC
 val : ∀ s, s < t → v (kv s) = vO (ob s) (ps s) ∧ Hd w1 (ob s) (ps s)
 wt : ∀ s, s < t → ∀ i, i < n → Region.waitsFor .any ops (n + s) i = true → listed.getD i true = true

section
variable {Q : Exit → Act → World → Prop}
theorem wp_region_growM {id : Nat} {a0 : Act} {w0 : World} {l : List Oper} (n m : Nat) (hm : Tryz.prog.follows .mixedOrders = true) (hB : invB .any l.toArray (n + m) = true)
 (d : Nat → Nat) (R : Nat → Value → Nat → Nat → World → Prop) (hR : ∀ i x l m w w', R i x l m w → m ≤ w.heap.size → Below w.heap.size w w' → R i x l m w')
 (hd : ∀ i j, i < n → j < n → d i = d j → i = j) (hds : ∀ i, i < n → d i < a0.tmps.size)
 (late : List Nat) (hlate : ((List.range n).all fun i => late.contains i || Region.waitsFor .any l.toArray n i) = true)
 (kb kv : Nat → Nat) (ob : Nat → Ob) (hkb : ∀ s, s < m → kb s < n) (hkv : ∀ s, s < m → kv s < n) (hinj : ∀ s t, s < m → t < m → kb s = kb t → s = t)
 (hw0 : ((List.range m).all fun s => Region.waitsFor .any l.toArray (n + s) (kb s) && Region.waitsFor .any l.toArray (n + s) (kv s) && (List.range s).all fun r => Region.waitsFor .any l.toArray (n + s) (n + r)) = true)
 (hos : ∀ s, s < m → ∃ os, l[n + s]? = some os ∧ os.guard = none ∧ os.dst = none ∧ os.op = .store 35 (.tmp (d (kb s))) (.tmp (d (kv s))))
 (hRb : ∀ s, s < m → ∀ v lo hi w, R (kb s) v lo hi w → LBx v lo hi w) (hRv : ∀ s, s < m → ∀ v lo hi w, R (kv s) v lo hi w → ∃ p, v = vO (ob s) p ∧ Hd w (ob s) p)
 (step : ∀ i, i < n → ∀ (a : Act) (w : World) (v : Nat → Value) (lo hi : Nat → Nat), (∀ s, (∀ j, j < n → d j ≠ s) → a.tmps[s]? = a0.tmps[s]?) → Below w0.heap.size w0 w →
  (∀ j, j < n → Region.waitsFor .any l.toArray i j = true → a.tmps[d j]? = some (v j) ∧ R j (v j) (lo j) (hi j) w ∧ w0.heap.size ≤ lo j ∧ hi j ≤ w.heap.size) →
  wpOp Tryz.prog l.toArray Q i (fun a' w' => ∃ x, a' = a.put (some (d i)) x ∧ Below w.heap.size w w' ∧ R i x w.heap.size w'.heap.size w') a w)
 (stepL : ∀ i, i < n → late.contains i = true → ∀ (a : Act) (w1 w : World) (v : Nat → Value) (lo hi : Nat → Nat), (∀ s, (∀ j, j < n → d j ≠ s) → a.tmps[s]? = a0.tmps[s]?) → Below w0.heap.size w0 w1 →
  (∀ b, b < w0.heap.size → w.heap[b]? = w1.heap[b]?) → w.heap.size = w1.heap.size →
  (∀ j, j < n → Region.waitsFor .any l.toArray i j = true → a.tmps[d j]? = some (v j) ∧ R j (v j) (lo j) (hi j) w1) →
  wpOp Tryz.prog l.toArray Q i (fun a' w' => ∃ x w1', a' = a.put (some (d i)) x ∧ ((w1' = w1 ∧ w' = w) ∨ (∃ o, w1' = w1.alloc o ∧ w' = w.alloc o)) ∧ R i x w1.heap.size w1'.heap.size w1') a w)
 (done : ∀ (a : Act) (w : World) (v : Nat → Value) (lo hi : Nat → Nat) (ps : Nat → Value), a.defers = a0.defers → a.tmps.size = a0.tmps.size → (∀ s, (∀ j, j < n → d j ≠ s) → a.tmps[s]? = a0.tmps[s]?) → Below w0.heap.size w0 w →
  (∀ j, j < n → a.tmps[d j]? = some (v j) ∧ R j (v j) (lo j) (hi j) w ∧ w0.heap.size ≤ lo j ∧ hi j ≤ w.heap.size) → (∀ i j, i < n → j < n → i ≠ j → hi i ≤ lo j ∨ hi j ≤ lo i) →
  (∀ s, s < m → v (kb s) = .pointer (some ⟨lo (kb s), 0, none⟩) ∧ Bx w (lo (kb s)) zeroC) → (∀ s, s < m → v (kv s) = vO (ob s) (ps s) ∧ Hd w (ob s) (ps s)) →
  wpList Tryz.prog l.toArray Q (l.drop (n + m)) a (stW (stF lo kb ob ps) w m)) :
 (Code.region id l.toArray true).wp Tryz.prog Q a0 w0 := by
 have hn : n + m < l.length := by
  simp only [invB, Bool.and_eq_true, decide_eq_true_eq] at hB
  simpa using hB.1.1.1.1
 have hwait : ∀ i, i < n → late.contains i = false → Region.waitsFor .any l.toArray n i = true := fun i hi hl => by
  have h1 := List.all_eq_true.1 hlate i (List.mem_range.2 hi)
  rw [hl] at h1
  simpa using h1
 have hws : ∀ s, s < m → (Region.waitsFor .any l.toArray (n + s) (kb s) = true ∧ Region.waitsFor .any l.toArray (n + s) (kv s) = true) ∧ ∀ r, r < s → Region.waitsFor .any l.toArray (n + s) (n + r) = true := fun s hs => by
  have h1 := List.all_eq_true.1 hw0 s (List.mem_range.2 hs)
  rw [Bool.and_eq_true, Bool.and_eq_true] at h1
  exact ⟨h1.1, fun r hr => List.all_eq_true.1 h1.2 r (List.mem_range.2 hr)⟩
 refine wp_region_inv (n + m) hm hB (fun listed a w => listed.size = l.length ∧ ∃ t, t ≤ m ∧ (∀ s, s < m → listed.getD (n + s) true = decide (s < t)) ∧
  ∃ v lo hi w1 ps, Grow n d R a0 w0 listed a w1 v lo hi ∧ StOk w0 n kb kv ob l.toArray listed t v lo ps w1 ∧ w = stW (stF lo kb ob ps) w1 t) ?_ ?_ ?_
 · have hf : ∀ i, i < l.length → (Array.replicate l.length false).getD i true = false := fun i hlt => by simp [hlt]
   refine ⟨by simp, 0, Nat.zero_le _, fun s hs => by rw [hf _ (by omega)]; rfl, fun _ => undef, fun _ => 0, fun _ => 0, w0.drew, fun _ => undef, ⟨rfl, rfl, fun _ _ => rfl, (Below.refl _ _).drew, fun i hi hl => ?_, fun i j hi hj _ hl => ?_⟩, ⟨fun s hs => absurd hs (Nat.not_lt_zero _), fun s hs => absurd hs (Nat.not_lt_zero _), fun s hs => absurd hs (Nat.not_lt_zero _)⟩, rfl⟩
   · rw [hf i (by omega)] at hl; cases hl
   · rw [hf i (by omega)] at hl; cases hl
 · rintro listed a w i hi hr ⟨hsz, t, htm, hst, v, lo, hi', w1, ps, hG, hS, rfl⟩
   obtain ⟨hun, oi, hoi, hall⟩ := mem_ready.1 hr
   have hwl : ∀ j, j < l.length → Region.waitsFor .any l.toArray i j = true → listed.getD j true = true := fun j hj hw => by
    obtain ⟨oj, hoj, e, he, hbn, hon⟩ := Region.waitsFor_spec hw
    have : oj = oi := Option.some.inj (hoj.symm.trans hoi)
    subst this
    have hlj := hall e he hbn
    rw [hon] at hlj
    have hjl : j < listed.size := by omega
    simp [hjl] at hlj ⊢
    exact hlj
   have hgrow : ∀ k, listed.getD k true = true → (listed.setIfInBounds i true).getD k true = true := fun k hk => by
    by_cases e : i = k
    · subst e; exact set_getD
    · rw [Go.getD_set_ne true e]; exact hk
   have hltF : ∀ s, s < t → (stF lo kb ob ps s).1 < w1.heap.size ∧ w0.heap.size ≤ (stF lo kb ob ps s).1 := fun s hs => by
    have hb := (hS.box s hs).2
    have hl := hS.wt s hs (kb s) (hkb s (by omega)) (hws s (by omega)).1.1
    exact ⟨hb.lt, (hG.slot (kb s) (hkb s (by omega)) hl).2.2.1⟩
   by_cases hin : i < n
   · have hstl : ∀ s, s < m → (listed.setIfInBounds i true).getD (n + s) true = decide (s < t) := fun s hs => by
      rw [Go.getD_set_ne true (by omega)]; exact hst s hs
     have hwt' : ∀ s, s < t → ∀ j, j < n → Region.waitsFor .any l.toArray (n + s) j = true → (listed.setIfInBounds i true).getD j true = true := fun s hs j hj hw => hgrow j (hS.wt s hs j hj hw)
     have hneb : ∀ s, s < t → kb s ≠ i := fun s hs e => by
      have := hS.wt s hs (kb s) (hkb s (by omega)) (hws s (by omega)).1.1
      rw [e, hun] at this; cases this
     have hnev : ∀ s, s < t → kv s ≠ i := fun s hs e => by
      have := hS.wt s hs (kv s) (hkv s (by omega)) (hws s (by omega)).1.2
      rw [e, hun] at this; cases this
     by_cases ht0 : t = 0
     · subst ht0
       refine wpOp_mono ?_ (step i hin a w1 v lo hi' hG.other hG.below (fun j hj hw => ?_))
       · rintro a' w' ⟨x, rfl, hb, hx⟩
         exact ⟨by simpa using hsz, 0, Nat.zero_le _, hstl, _, _, _, w', ps, hG.step hR hd hds hin (by omega) hun hb hx, ⟨fun s hs => absurd hs (Nat.not_lt_zero _), fun s hs => absurd hs (Nat.not_lt_zero _), fun s hs => absurd hs (Nat.not_lt_zero _)⟩, rfl⟩
       · obtain ⟨h1, h2, h3, h4, h5⟩ := hG.slot j hj (hwl j (by omega) hw)
         exact ⟨h1, h2, h3, h5⟩
     · have hcl : late.contains i = true := by
        cases hc : late.contains i with
        | true => rfl
        | false =>
         have := hS.wt 0 (by omega) i hin (hwait i hin hc)
         rw [hun] at this; cases this
       refine wpOp_mono ?_ (stepL i hin hcl a w1 (stW (stF lo kb ob ps) w1 t) v lo hi' hG.other hG.below (fun b hb => stW_other _ _ _ _ (fun s hs => by have := (hltF s hs).2; omega)) (stW_size _ _ _) (fun j hj hw => ?_))
       · rintro a' w' ⟨x, w1', rfl, hor, hx⟩
         have hb1 : Below w1.heap.size w1 w1' := by
          rcases hor with ⟨rfl, _⟩ | ⟨o, rfl, _⟩
          · exact Below.refl _ _
          · exact Below.alloc (Below.refl _ _) (Nat.le_refl _) _
         refine ⟨by simpa using hsz, t, htm, hstl, _, _, _, w1', ps, hG.step hR hd hds hin (by omega) hun hb1 hx, ⟨fun s hs => ?_, fun s hs => ?_, hwt'⟩, ?_⟩
         · have h1 := hS.box s hs
           simp only [if_neg (hneb s hs)]
           exact ⟨h1.1, h1.2.keep hb1⟩
         · have h1 := hS.val s hs
           simp only [if_neg (hnev s hs)]
           exact ⟨h1.1, h1.2.below hb1⟩
         · have hc : ∀ w, stW (stF (fun j => if j = i then w1.heap.size else lo j) kb ob ps) w t = stW (stF lo kb ob ps) w t := fun w => stW_congr w t fun s hs => by
            unfold stF
            simp only [if_neg (hneb s hs)]
           rw [hc]
           rcases hor with ⟨rfl, rfl⟩ | ⟨o, rfl, rfl⟩
           · rfl
           · exact (stW_alloc _ _ _ _ (fun s hs => (hltF s hs).1)).symm
       · obtain ⟨h1, h2, _, _, _⟩ := hG.slot j hj (hwl j (by omega) hw)
         exact ⟨h1, h2⟩
   · obtain ⟨s, rfl⟩ : ∃ s, i = n + s := ⟨i - n, by omega⟩
     have hsm : s < m := by omega
     have hts : ¬ s < t := fun h => by
      have := hst s hsm
      rw [hun, decide_eq_true h] at this; cases this
     have hst2 : s = t := by
      rcases Nat.lt_or_ge t s with h | h
      · have h1 := hwl (n + t) (by omega) ((hws s hsm).2 t h)
        rw [hst t (by omega)] at h1
        have := of_decide_eq_true h1
        omega
      · omega
     subst hst2
     have hlb := hwl (kb s) (by have := hkb s hsm; omega) (hws s hsm).1.1
     have hlv := hwl (kv s) (by have := hkv s hsm; omega) (hws s hsm).1.2
     obtain ⟨sb, rb, gb, _, _⟩ := hG.slot (kb s) (hkb s hsm) hlb
     obtain ⟨sv, rv, _, _, _⟩ := hG.slot (kv s) (hkv s hsm) hlv
     obtain ⟨eb, bb, lb⟩ := hRb s hsm _ _ _ _ rb
     obtain ⟨p, ev, hp⟩ := hRv s hsm _ _ _ _ rv
     obtain ⟨os, ho1, ho2, ho3, ho4⟩ := hos s hsm
     have hap : ∀ r, r < s → (stF lo kb ob ps r).1 ≠ lo (kb s) := fun r hr e => by
      have hlr := hS.wt r hr (kb r) (hkb r (by omega)) (hws r (by omega)).1.1
      obtain ⟨_, rr, _, _, _⟩ := hG.slot (kb r) (hkb r (by omega)) hlr
      obtain ⟨_, _, lr⟩ := hRb r (by omega) _ _ _ _ rr
      have hne : kb r ≠ kb s := fun e => by have := hinj r s (by omega) hsm e; omega
      have e' : lo (kb r) = lo (kb s) := e
      rcases hG.apart (kb r) (kb s) (hkb r (by omega)) (hkb s hsm) hne hlr hlb with h | h <;> omega
     have bb2 : Bx (stW (stF lo kb ob ps) w1 s) (lo (kb s)) zeroC := (stW_other _ _ _ _ hap).trans bb
     have hosl : l.toArray[n + s]? = some os := by simpa using ho1
     refine wpOp_step hosl fun K' hK' => ?_
     rw [if_pos (wanted_plain ho2)]
     refine wp_store_row 35 _ _ ho4 (lo (kb s)) (cellsO (ob s) p).toArray ((eval_of sb).trans eb) ((eval_of sv).trans ev) _ _ bb2 (by rw [List.size_toArray, cellsO_length]; kernel_rfl) (by simp [zeroC, cellsO_length]) (Pair.one hp) ?_
     have hset : ∀ j, j < n → (listed.setIfInBounds (n + s) true).getD j true = listed.getD j true := fun j hj => Go.getD_set_ne true (by omega)
     refine hK' _ _ ⟨by simpa using hsz, s + 1, by omega, fun r hr => ?_, v, lo, hi', w1, fun r => if r = s then p else ps r, ?_, ⟨fun r hr => ?_, fun r hr => ?_, fun r hr j hj hw => ?_⟩, ?_⟩
     · by_cases e : r = s
       · subst e; rw [set_getD, decide_eq_true (by omega)]
       · rw [Go.getD_set_ne true (by omega), hst r hr]
         by_cases h2 : r < s
         · rw [decide_eq_true h2, decide_eq_true (by omega)]
         · rw [decide_eq_false h2, decide_eq_false (by omega)]
     · rw [ho3]
       exact ⟨hG.defers, hG.size, hG.other, hG.below, fun j hj hl => hG.slot j hj (by rw [← hset j hj]; exact hl), fun j k hj hk hne hl hl2 => hG.apart j k hj hk hne (by rw [← hset j hj]; exact hl) (by rw [← hset k hk]; exact hl2)⟩
     · by_cases e : r = s
       · subst e; exact ⟨eb, bb⟩
       · exact hS.box r (by omega)
     · by_cases e : r = s
       · subst e; simp only [if_true]; exact ⟨ev, hp⟩
       · simp only [if_neg e]; exact hS.val r (by omega)
     · by_cases e : r = s
       · subst e; exact hgrow j (hwl j (by omega) hw)
       · exact hgrow j (hS.wt r (by omega) j hj hw)
     · show (stW (stF lo kb ob ps) w1 s).setRow _ _ = (stW (stF lo kb ob fun r => if r = s then p else ps r) w1 s).setRow _ _
       rw [stW_congr (f := stF lo kb ob ps) (f' := stF lo kb ob fun r => if r = s then p else ps r) w1 s (fun r hr => by unfold stF; simp only [if_neg (show ¬ r = s by omega)])]
       unfold stF
       simp only [if_true]
 · rintro a w ⟨hsz, t, htm, hst, v, lo, hi', w1, ps, hG, hS, rfl⟩
   have hfull : ∀ i, i < n + m → (fullHead (n + m) (l.length - (n + m))).getD i true = true := fun i hi => by
    have hlt : i < (fullHead (n + m) (l.length - (n + m))).size := by simp [fullHead]; omega
    simp [fullHead, hi, List.getElem?_append]
   have htm2 : t = m := by
    rcases Nat.lt_or_ge t m with h | h
    · have h1 := hst t h
      rw [hfull (n + t) (by omega)] at h1
      have := of_decide_eq_true h1.symm
      omega
    · omega
   subst htm2
   exact done a w1 v lo hi' ps hG.defers hG.size hG.other hG.below (fun j hj => by
    obtain ⟨h1, h2, h3, h4, h5⟩ := hG.slot j hj (hfull j (by omega))
    exact ⟨h1, h2, h3, h5⟩) (fun i j hi hj hne => hG.apart i j hi hj hne (hfull i (by omega)) (hfull j (by omega))) hS.box hS.val
end
section
variable {P : Program} {Q : Exit → Act → World → Prop} {ops : Array Oper} {K : Act → World → Prop} {a : Act} {w : World} {i : Nat} {o : Oper}
theorem wanted_g {og : Oper} {g : Nat} {b v : Bool} {s : Tmp} (hg : o.guard = some (g, b)) (ho : ops[g]? = some og) (hd : og.dst = some s) (hs : a.tmps[s]? = some (.bool v)) : Region.wanted o (yielded ops a.tmps) = (v == b) := by
 simp [Region.wanted, hg, yielded, ho, hd, hs]
theorem wanted_on {og : Oper} {g : Nat} {b v : Bool} {s : Tmp} (hg : o.guard = some (g, b)) (ho : ops[g]? = some og) (hd : og.dst = some s) (hs : a.tmps[s]? = some (.bool v)) (e : (v == b) = true) : Region.wanted o (yielded ops a.tmps) = true := (wanted_g hg ho hd hs).trans e
theorem wanted_off {og : Oper} {g : Nat} {b v : Bool} {s : Tmp} (hg : o.guard = some (g, b)) (ho : ops[g]? = some og) (hd : og.dst = some s) (hs : a.tmps[s]? = some (.bool v)) (e : (v == b) = false) : Region.wanted o (yielded ops a.tmps) = false := (wanted_g hg ho hd hs).trans e
theorem gw_skip (ho : ops[i]? = some o) (hw : Region.wanted o (yielded ops a.tmps) = false) (hK : K (a.put o.dst undef) w) : wpOp P ops Q i K a w :=
 wpOp_step ho fun K' hK' => by
  rw [if_neg (by rw [hw]; exact Bool.false_ne_true)]
  exact hK' _ _ hK
theorem gw_t (ho : ops[i]? = some o) (hw : Region.wanted o (yielded ops a.tmps) = true) (f : FuncId) (s0 : Tmp) (v0 : Value) (ts : Array TypeId) (hop : o.op = Op.call { callee := Callee.value (Operand.func f), args := #[.tmp s0], argTypes := ts }) (hf : ∀ (v0 : Value) (w : World), (callFunc f #[v0]).run P w = .ok (.enter f #[v0]) w)
 (h0 : a.tmps[s0]? = some v0)
 (hc : Calls P f #[v0] w fun e w' => ∃ r, e = .returned r ∧ K (a.put o.dst r) w') : wpOp P ops Q i K a w :=
 wpOp_step ho fun K' hK' => by
  rw [if_pos hw]
  unfold Oper.wp
  simp only [execOp, hop]
  go_simp
  refine hc.mono ?_
  rintro e w' ⟨r, rfl, h⟩
  exact hK' _ _ h
theorem gw_tt (ho : ops[i]? = some o) (hw : Region.wanted o (yielded ops a.tmps) = true) (f : FuncId) (s0 : Tmp) (s1 : Tmp) (v0 v1 : Value) (ts : Array TypeId) (hop : o.op = Op.call { callee := Callee.value (Operand.func f), args := #[.tmp s0, .tmp s1], argTypes := ts }) (hf : ∀ (v0 v1 : Value) (w : World), (callFunc f #[v0, v1]).run P w = .ok (.enter f #[v0, v1]) w)
 (h0 : a.tmps[s0]? = some v0) (h1 : a.tmps[s1]? = some v1)
 (hc : Calls P f #[v0, v1] w fun e w' => ∃ r, e = .returned r ∧ K (a.put o.dst r) w') : wpOp P ops Q i K a w :=
 wpOp_step ho fun K' hK' => by
  rw [if_pos hw]
  unfold Oper.wp
  simp only [execOp, hop]
  go_simp
  refine hc.mono ?_
  rintro e w' ⟨r, rfl, h⟩
  exact hK' _ _ h
theorem gw_move (ho : ops[i]? = some o) (hw : Region.wanted o (yielded ops a.tmps) = true) (s : Tmp) (v : Value) (hop : o.op = Op.move (.tmp s)) (hx : a.tmps[s]? = some v) (hK : K (a.put o.dst v) w) : wpOp P ops Q i K a w :=
 wpOp_step ho fun K' hK' => by
  rw [if_pos hw]
  unfold Oper.wp
  simp only [execOp, hop]
  go_simp
  exact hK' _ _ hK
theorem gw_not (ho : ops[i]? = some o) (hw : Region.wanted o (yielded ops a.tmps) = true) (s : Tmp) (b : Bool) (t : TypeId) (hop : o.op = Op.unOp UnOp.not t (.tmp s)) (hx : a.tmps[s]? = some (.bool b)) (hK : K (a.put o.dst (.bool !b)) w) : wpOp P ops Q i K a w :=
 wpOp_step ho fun K' hK' => by
  rw [if_pos hw]
  unfold Oper.wp
  simp only [execOp, hop]
  go_simp
  exact hK' _ _ hK
theorem gw_pickT (ho : ops[i]? = some o) (hw : Region.wanted o (yielded ops a.tmps) = true) (s t : Tmp) (x : Operand) (v : Value) (hop : o.op = Op.pick (.tmp s) (.tmp t) x) (hx : a.tmps[s]? = some (.bool true)) (hy : a.tmps[t]? = some v) (hK : K (a.put o.dst v) w) : wpOp P ops Q i K a w :=
 wpOp_step ho fun K' hK' => by
  rw [if_pos hw]
  unfold Oper.wp
  simp only [execOp, hop]
  go_simp
  exact hK' _ _ hK
theorem gw_pickF (ho : ops[i]? = some o) (hw : Region.wanted o (yielded ops a.tmps) = true) (s : Tmp) (x : Operand) (v : Value) (hop : o.op = Op.pick (.tmp s) x (.const v)) (hx : a.tmps[s]? = some (.bool false)) (hK : K (a.put o.dst v) w) : wpOp P ops Q i K a w :=
 wpOp_step ho fun K' hK' => by
  rw [if_pos hw]
  unfold Oper.wp
  simp only [execOp, hop]
  go_simp
  exact hK' _ _ hK
theorem gw_load (ho : ops[i]? = some o) (hw : Region.wanted o (yielded ops a.tmps) = true) (ty : TypeId) (x : Operand) (hop : o.op = .load ty x) (g : Nat) (hx : a.eval x = .pointer (some ⟨g, 0, none⟩)) (cs : Array Value) (t : TypeId) (fr : Nat × Nat) (d : TypeDesc) (hc : w.heap[g]? = some (.cells cs t fr))
 (hu : P.underlying ty = some d) (hd : (match d with | .struct _ | .array _ _ => true | _ => false) = true) (hi : (P.info? ty).map (·.size) = some cs.size) (hK : K (a.put o.dst (.agg cs)) w) : wpOp P ops Q i K a w :=
 wpOp_step ho fun K' hK' => by
  rw [if_pos hw]
  exact wp_load_row ty x hop g hx t cs fr d hc hu hd hi (hK' _ _ hK)
end
theorem gw_box {Q : Exit → Act → World → Prop} {ops : Array Oper} {K : Act → World → Prop} {a : Act} {w : World} {i : Nat} {o : Oper} (ho : ops[i]? = some o) (hw : Region.wanted o (yielded ops a.tmps) = true) (x : Operand) (hop : o.op = .load 35 x) {g : Nat} {b : Ob} {p : Value} (hx : a.eval x = .pointer (some ⟨g, 0, none⟩)) (hb : Bx w g (cellsO b p).toArray)
 (hK : K (a.put o.dst (vO b p)) w) : wpOp Tryz.prog ops Q i K a w :=
 gw_load ho hw 35 x hop g hx _ _ _ _ hb Tryz.underlying35 rfl (by rw [List.size_toArray, cellsO_length]; kernel_rfl) hK
end Go.Proofs.YtocbedijpomemaaGreatDoor
