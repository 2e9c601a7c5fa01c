import Derived.Test.YtlmnjelideegnaaGreatDoorCl
import Derived.Test.YtlmnjelideegnaaGreatDoorL28
import Derived.BigRegion
import Derived.Test.YtlmnjelideegnaaGreatDoorL18
import Derived.Test.YtlmnjelideegnaaGreatDoorL26
import Derived.BigQuiet
namespace Go.Proofs.YtlmnjelideegnaaGreatDoor
open Go Go.RowKit
set_option linter.unusedVariables false
set_option maxHeartbeats 32000000
set_option maxRecDepth 100000
theorem objStrG (q : List UInt8) (p : Value) (w : World) (B g : Nat) (lv : Value) (cur : ByteArray) (bp bv : Value) (acc : List UInt8) (h : PrW w B g lv cur bp bv acc) (hB : B ≤ w.heap.size) (hT : EscT w) (hb : q.length ≤ 1000000) (hs : acc.length ≤ 100000000) :
 Calls Tryz.prog 50 #[.pointer (some ⟨g, 0, none⟩), vO (.str q) p] w (RetG B g lv cur (acc ++ escL 34 q) (.mk acc.length (acc.length + (escL 34 q).length) []) w) := by
 have ea : cellsO (.str q) p = [.int .i64 3, .string ⟨#[]⟩, .string ⟨#[]⟩, .string ⟨#[]⟩, .string ⟨#[]⟩, .string (BA q), p] := rfl
 have T := Bx1.new w #[.int .i64 3, .string ⟨#[]⟩, .string ⟨#[]⟩, .string ⟨#[]⟩, .string ⟨#[]⟩, .string (BA q), p]
 have C : Hid (∀ X, Below w.heap.size w X → Calls Tryz.prog 71 #[.int .i64 0, .string (BA q)] X (RetTU X (BA (escL 34 q)))) := fun X h => by
  have := enclose0 (BA q) X (hT.keep h).1 (by rw [BA_size]; omega)
  rwa [LA_BA] at this
 have H := qh9 h
 rw [vO_cells ea]
 go_enter Tryz.func50, Tryz.ntmps50
 go_upto_region 1 with fail
 generalize hW1 : ((w.alloc (.cells #[.int .i64 3, .string ⟨#[]⟩, .string ⟨#[]⟩, .string ⟨#[]⟩, .string ⟨#[]⟩, .string (BA q), p] 39)).alloc (.cells #[.int .i64 0, .int .i64 0, .slice none 0 0] 89)) = W1
 have hal : Below w.heap.size w W1 := by rw [← hW1]; exact T.bel.trans (Below.mono (below_al _ _) T.bel.size)
 have HB1 := qh9 hal
 have B0 : Hid (Bx W1 w.heap.size #[.int .i64 3, .string ⟨#[]⟩, .string ⟨#[]⟩, .string ⟨#[]⟩, .string ⟨#[]⟩, .string (BA q), p]) := by
  show Bx _ _ _
  rw [← hW1]
  exact T.b0.keep (below_al _ _)
 have R1 : Hid (SpB W1 (w.heap.size + 1) (.int .i64 0) (.int .i64 0) (.slice none 0 0)) := by
  show SpB _ _ _ _ _
  rw [← hW1]
  have e := heap_alloc_new (w.alloc (.cells #[.int .i64 3, .string ⟨#[]⟩, .string ⟨#[]⟩, .string ⟨#[]⟩, .string ⟨#[]⟩, .string (BA q), p] 39)) (.cells #[.int .i64 0, .int .i64 0, .slice none 0 0] 89)
  have e2 : (w.alloc (.cells #[.int .i64 3, .string ⟨#[]⟩, .string ⟨#[]⟩, .string ⟨#[]⟩, .string ⟨#[]⟩, .string (BA q), p] 39)).heap.size = w.heap.size + 1 := by simp
  rw [e2] at e
  exact e
 have H1 := qh9 (H.out.keep hal)
 clear T hal hW1 ea
 have hgl := H.out.lt
 have gne1 : w.heap.size + 1 ≠ g := by omega
 have gne2 : W1.heap.size ≠ g := by have := R1.out.lt; omega
 have gne3 : W1.heap.size ≠ w.heap.size + 1 := by have := R1.out.lt; omega
 have G1 := qh9 gne1
 have G2 := qh9 gne2
 have G3 := qh9 gne3
 have G4 : Hid (w.heap.size ≤ W1.heap.size) := HB1.out.size
 have ACL := qh9 hs
 have hzn : (BA (escL 34 q)).size ≤ 2000002 := by
  rw [BA_size]
  have := escL_len 34 q
  omega
 have ZN := qh9 hzn
 have hBg := H.out.hB
 have HBW := qh9 hB
 clear H h gne1 gne2 gne3 hs hb hzn hgl hB hT
 go_wp2_with fail
 with_reducible refine (lenG _ B g lv cur bp bv acc H1.out).mono ?_
 rintro e w2 ⟨rfl, rfl⟩
 go_upto_region 2 with fail
 generalize hW2 : w2.alloc (.cells #[.int .i64 (acc.length : Int), .int .i64 0, .slice none 0 0] 89) = W2
 have hal : Below w2.heap.size w2 W2 := by rw [← hW2]; exact below_al _ _
 have R2 : Hid (SpB W2 w2.heap.size (.int .i64 (acc.length : Int)) (.int .i64 0) (.slice none 0 0)) := by
  show SpB _ _ _ _ _
  rw [← hW2]
  exact heap_alloc_new _ _
 replace B0 := qh9 (B0.out.keep hal)
 replace H1 := qh9 (H1.out.keep hal)
 replace R1 := qh9 (R1.out.keep hal)
 replace HB1 := qc9 HB1 hal
 generalize w2.heap.size = k2 at R2 G2 G3 G4 ⊢
 clear hal hW2
 obtain ⟨m0, m1, m2, m3, m4, m5, m6⟩ := Bx.c B0.out
 go_upto_region 6 with fail
 have BD := qh9 (B0.out.keep ((Below.refl W2.heap.size W2).drew))
 have HD := qh9 (H1.out.keep ((Below.refl W2.heap.size W2).drew))
 obtain ⟨n0, n1, n2, n3, n4, n5, n6⟩ := Bx.c BD.out
 go_region_with (first | (go_at_call 71; (with_reducible refine (C.out _ (Below.drew HB1.out)).mono ?_); rintro e w3 ⟨rfl, hb3⟩; have HP := qh9 (HD.out.keep hb3); have K3 := qh9 ((Below.drew (Below.refl W2.heap.size W2)).trans hb3)) | (go_at_call 81; refine (writeG _ B g lv cur _ _ acc (BA (escL 34 q)) HP.out (by have := ZN.out; have := ACL.out; omega)).mono ?_; rintro e w4 ⟨rfl, ⟨bv4, hp4⟩, hk4⟩; have HP4 := qh9 hp4; have K4 := qh9 hk4))
 have P4 : Hid (PrW w4 B g lv cur (.pointer (some ⟨g, 2, none⟩)) bv4 (acc ++ escL 34 q)) := by
  have := HP4.out
  rwa [LA_BA] at this
 have Q1 := qh9 ((R1.out.keep K3.out).kg K4.out G1.out)
 have Q2 := qh9 ((R2.out.keep K3.out).kg K4.out G2.out)
 have KA := qh9 (((KpG.of (g := g) HB1.out HBW.out).trans (KpG.of (g := g) K3.out (Nat.le_trans HBW.out HB1.out.size))).trans K4.out)
 go_wp2_with fail
 with_reducible refine (lenG _ B g lv cur _ bv4 _ P4.out).mono ?_
 rintro e w5 ⟨rfl, rfl⟩
 have u1 : w5.cell? ⟨k2, 1, none⟩ = some (.int .i64 0) := by rw [cell_of_row _ _ _ _ _ _ Q2.out]; rfl
 have u2 : w5.frozen? ⟨k2, 1, none⟩ = false := by
  have e := Q2.out
  unfold SpB at e
  simp [World.frozen?, e]
 go_upto_region 12 with fail
 have kk : ∀ j, j ≠ k2 → (w5.setCell ⟨k2, 1, none⟩ (.int .i64 ((acc.length : Int) + ((escL 34 q).length : Int)))).heap[j]? = w5.heap[j]? := fun j hj => Below.heap_setCell w5 ⟨k2, 1, none⟩ _ j hj
 have V2 : Hid (SpB (w5.setCell ⟨k2, 1, none⟩ (.int .i64 ((acc.length : Int) + ((escL 34 q).length : Int)))) k2 (.int .i64 (acc.length : Int)) (.int .i64 ((acc.length : Int) + ((escL 34 q).length : Int))) (.slice none 0 0)) := by
  have e := Q2.out
  show SpB _ _ _ _ _
  unfold SpB at e ⊢
  simp [World.setCell, Array.getElem?_modify, e]
 have V1 : Hid (SpB (w5.setCell ⟨k2, 1, none⟩ (.int .i64 ((acc.length : Int) + ((escL 34 q).length : Int)))) (w.heap.size + 1) (.int .i64 0) (.int .i64 0) (.slice none 0 0)) := (kk _ (fun e => G3.out e.symm)).trans Q1.out
 have P6 := qh9 (P4.out.typ kk G2.out Q2.out.noRow)
 have K6 := qh9 (KA.out.cell k2 1 (.int .i64 ((acc.length : Int) + ((escL 34 q).length : Int))) G4.out HBW.out)
 clear u1 u2 m0 m1 m2 m3 m4 m5 m6 kk
 generalize w5.setCell ⟨k2, 1, none⟩ (.int .i64 ((acc.length : Int) + ((escL 34 q).length : Int))) = W6 at V2 V1 P6 K6 ⊢
 have l0 : W6.cell? ⟨k2, 0, none⟩ = some (.int .i64 (acc.length : Int)) := by rw [cell_of_row _ _ _ _ _ _ V2.out]; rfl
 have l1 : W6.cell? ⟨k2, 1, none⟩ = some (.int .i64 ((acc.length : Int) + ((escL 34 q).length : Int))) := by rw [cell_of_row _ _ _ _ _ _ V2.out]; rfl
 have l2 : W6.cell? ⟨k2, 2, none⟩ = some (.slice none 0 0) := by rw [cell_of_row _ _ _ _ _ _ V2.out]; rfl
 have kk : ∀ x j, j ≠ w.heap.size + 1 → (W6.setRow (w.heap.size + 1) x).heap[j]? = W6.heap[j]? := fun x j hj => setRow_other W6 _ j x hj
 go_wp2_with ((with_reducible refine SpB.store (.tmp 4) (.tmp 58) ?_ ?_ (w.heap.size + 1) (.int .i64 (acc.length : Int)) (.int .i64 ((acc.length : Int) + ((escL 34 q).length : Int))) (.slice none 0 0) (.int .i64 0) (.int .i64 0) (.slice none 0 0) ?_ ?_ V1.out ?_ ?_ ?_ ?_); rfl; rfl; rfl; rfl; rfl; rfl; rfl)
 exact retSp rfl rfl (setRow_heap _ _ _ _ _ _ V1.out) ⟨⟨_, rfl, SpV.leaf2 _ _ acc.length (escL 34 q).length⟩, ⟨_, _, P6.out.typ (kk _) G1.out V1.out.noRow⟩, K6.out.row _ _ (by omega) HBW.out⟩
theorem objSymG (x y q : List UInt8) (p : Value) (w : World) (B g : Nat) (lv : Value) (cur : ByteArray) (bp bv : Value) (acc : List UInt8) (h : PrW w B g lv cur bp bv acc) (hB : B ≤ w.heap.size) (hb : q.length ≤ 1000000) (hC : ∀ X, Below w.heap.size w X → Calls Tryz.prog 36 #[lv, .string cur, .agg #[.string (BA x), .string (BA y)]] X (RetTU X (BA q))) (hs : acc.length ≤ 100000000) :
 Calls Tryz.prog 50 #[.pointer (some ⟨g, 0, none⟩), vO (.sym x y) p] w (RetG B g lv cur (acc ++ q) (.mk acc.length (acc.length + q.length) []) w) := by
 have ea : cellsO (.sym x y) p = [.int .i64 2, .string ⟨#[]⟩, .string ⟨#[]⟩, .string (BA x), .string (BA y), .string ⟨#[]⟩, p] := rfl
 have T := Bx1.new w #[.int .i64 2, .string ⟨#[]⟩, .string ⟨#[]⟩, .string (BA x), .string (BA y), .string ⟨#[]⟩, p]
 have C := qh9 hC
 have H := qh9 h
 rw [vO_cells ea]
 go_enter Tryz.func50, Tryz.ntmps50
 go_upto_region 1 with fail
 generalize hW1 : ((w.alloc (.cells #[.int .i64 2, .string ⟨#[]⟩, .string ⟨#[]⟩, .string (BA x), .string (BA y), .string ⟨#[]⟩, p] 39)).alloc (.cells #[.int .i64 0, .int .i64 0, .slice none 0 0] 89)) = W1
 have hal : Below w.heap.size w W1 := by rw [← hW1]; exact T.bel.trans (Below.mono (below_al _ _) T.bel.size)
 have HB1 := qh9 hal
 have B0 : Hid (Bx W1 w.heap.size #[.int .i64 2, .string ⟨#[]⟩, .string ⟨#[]⟩, .string (BA x), .string (BA y), .string ⟨#[]⟩, p]) := by
  show Bx _ _ _
  rw [← hW1]
  exact T.b0.keep (below_al _ _)
 have R1 : Hid (SpB W1 (w.heap.size + 1) (.int .i64 0) (.int .i64 0) (.slice none 0 0)) := by
  show SpB _ _ _ _ _
  rw [← hW1]
  have e := heap_alloc_new (w.alloc (.cells #[.int .i64 2, .string ⟨#[]⟩, .string ⟨#[]⟩, .string (BA x), .string (BA y), .string ⟨#[]⟩, p] 39)) (.cells #[.int .i64 0, .int .i64 0, .slice none 0 0] 89)
  have e2 : (w.alloc (.cells #[.int .i64 2, .string ⟨#[]⟩, .string ⟨#[]⟩, .string (BA x), .string (BA y), .string ⟨#[]⟩, p] 39)).heap.size = w.heap.size + 1 := by simp
  rw [e2] at e
  exact e
 have H1 := qh9 (H.out.keep hal)
 clear T hal hW1 ea
 have hgl := H.out.lt
 have gne1 : w.heap.size + 1 ≠ g := by omega
 have gne2 : W1.heap.size ≠ g := by have := R1.out.lt; omega
 have gne3 : W1.heap.size ≠ w.heap.size + 1 := by have := R1.out.lt; omega
 have G1 := qh9 gne1
 have G2 := qh9 gne2
 have G3 := qh9 gne3
 have G4 : Hid (w.heap.size ≤ W1.heap.size) := HB1.out.size
 have ACL := qh9 hs
 have hzn : (BA q).size ≤ 1000000 := by
  rw [BA_size]
  omega
 have ZN := qh9 hzn
 have hBg := H.out.hB
 have HBW := qh9 hB
 clear H h gne1 gne2 gne3 hs hb hzn hgl hB hC
 go_wp2_with fail
 with_reducible refine (lenG _ B g lv cur bp bv acc H1.out).mono ?_
 rintro e w2 ⟨rfl, rfl⟩
 go_upto_region 2 with fail
 generalize hW2 : w2.alloc (.cells #[.int .i64 (acc.length : Int), .int .i64 0, .slice none 0 0] 89) = W2
 have hal : Below w2.heap.size w2 W2 := by rw [← hW2]; exact below_al _ _
 have R2 : Hid (SpB W2 w2.heap.size (.int .i64 (acc.length : Int)) (.int .i64 0) (.slice none 0 0)) := by
  show SpB _ _ _ _ _
  rw [← hW2]
  exact heap_alloc_new _ _
 replace B0 := qh9 (B0.out.keep hal)
 replace H1 := qh9 (H1.out.keep hal)
 replace R1 := qh9 (R1.out.keep hal)
 replace HB1 := qc9 HB1 hal
 generalize w2.heap.size = k2 at R2 G2 G3 G4 ⊢
 clear hal hW2
 obtain ⟨m0, m1, m2, m3, m4, m5, m6⟩ := Bx.c B0.out
 go_upto_region 8 with fail
 have g0 := (H1.out.keep ((Below.refl W2.heap.size W2).drew)).c0
 have g1 := (H1.out.keep ((Below.refl W2.heap.size W2).drew)).c1
 have g00 := H1.out.c0
 have g10 := H1.out.c1
 have BD := qh9 (B0.out.keep ((Below.refl W2.heap.size W2).drew))
 have HD := qh9 (H1.out.keep ((Below.refl W2.heap.size W2).drew))
 obtain ⟨n0, n1, n2, n3, n4, n5, n6⟩ := Bx.c BD.out
 go_region_with (first | (go_at_call 36; (with_reducible refine (C.out _ (Below.drew HB1.out)).mono ?_); rintro e w3 ⟨rfl, hb3⟩; have HP := qh9 (HD.out.keep hb3); have K3 := qh9 ((Below.drew (Below.refl W2.heap.size W2)).trans hb3)) | (go_at_call 81; refine (writeG _ B g lv cur _ _ acc (BA (q)) HP.out (by have := ZN.out; have := ACL.out; omega)).mono ?_; rintro e w4 ⟨rfl, ⟨bv4, hp4⟩, hk4⟩; have HP4 := qh9 hp4; have K4 := qh9 hk4))
 all_goals
  have P4 : Hid (PrW w4 B g lv cur (.pointer (some ⟨g, 2, none⟩)) bv4 (acc ++ q)) := by
   have := HP4.out
   rwa [LA_BA] at this
  have Q1 := qh9 ((R1.out.keep K3.out).kg K4.out G1.out)
  have Q2 := qh9 ((R2.out.keep K3.out).kg K4.out G2.out)
  have KA := qh9 (((KpG.of (g := g) HB1.out HBW.out).trans (KpG.of (g := g) K3.out (Nat.le_trans HBW.out HB1.out.size))).trans K4.out)
  go_wp2_with fail
  with_reducible refine (lenG _ B g lv cur _ bv4 _ P4.out).mono ?_
  rintro e w5 ⟨rfl, rfl⟩
  have u1 : w5.cell? ⟨k2, 1, none⟩ = some (.int .i64 0) := by rw [cell_of_row _ _ _ _ _ _ Q2.out]; rfl
  have u2 : w5.frozen? ⟨k2, 1, none⟩ = false := by
   have e := Q2.out
   unfold SpB at e
   simp [World.frozen?, e]
  go_upto_region 12 with fail
  have kk : ∀ j, j ≠ k2 → (w5.setCell ⟨k2, 1, none⟩ (.int .i64 ((acc.length : Int) + ((q).length : Int)))).heap[j]? = w5.heap[j]? := fun j hj => Below.heap_setCell w5 ⟨k2, 1, none⟩ _ j hj
  have V2 : Hid (SpB (w5.setCell ⟨k2, 1, none⟩ (.int .i64 ((acc.length : Int) + ((q).length : Int)))) k2 (.int .i64 (acc.length : Int)) (.int .i64 ((acc.length : Int) + ((q).length : Int))) (.slice none 0 0)) := by
   have e := Q2.out
   show SpB _ _ _ _ _
   unfold SpB at e ⊢
   simp [World.setCell, Array.getElem?_modify, e]
  have V1 : Hid (SpB (w5.setCell ⟨k2, 1, none⟩ (.int .i64 ((acc.length : Int) + ((q).length : Int)))) (w.heap.size + 1) (.int .i64 0) (.int .i64 0) (.slice none 0 0)) := (kk _ (fun e => G3.out e.symm)).trans Q1.out
  have P6 := qh9 (P4.out.typ kk G2.out Q2.out.noRow)
  have K6 := qh9 (KA.out.cell k2 1 (.int .i64 ((acc.length : Int) + ((q).length : Int))) G4.out HBW.out)
  clear u1 u2 m0 m1 m2 m3 m4 m5 m6 kk
  generalize w5.setCell ⟨k2, 1, none⟩ (.int .i64 ((acc.length : Int) + ((q).length : Int))) = W6 at V2 V1 P6 K6 ⊢
  have l0 : W6.cell? ⟨k2, 0, none⟩ = some (.int .i64 (acc.length : Int)) := by rw [cell_of_row _ _ _ _ _ _ V2.out]; rfl
  have l1 : W6.cell? ⟨k2, 1, none⟩ = some (.int .i64 ((acc.length : Int) + ((q).length : Int))) := by rw [cell_of_row _ _ _ _ _ _ V2.out]; rfl
  have l2 : W6.cell? ⟨k2, 2, none⟩ = some (.slice none 0 0) := by rw [cell_of_row _ _ _ _ _ _ V2.out]; rfl
  have kk : ∀ x j, j ≠ w.heap.size + 1 → (W6.setRow (w.heap.size + 1) x).heap[j]? = W6.heap[j]? := fun x j hj => setRow_other W6 _ j x hj
  go_wp2_with ((with_reducible refine SpB.store (.tmp 4) (.tmp 58) ?_ ?_ (w.heap.size + 1) (.int .i64 (acc.length : Int)) (.int .i64 ((acc.length : Int) + ((q).length : Int))) (.slice none 0 0) (.int .i64 0) (.int .i64 0) (.slice none 0 0) ?_ ?_ V1.out ?_ ?_ ?_ ?_); rfl; rfl; rfl; rfl; rfl; rfl; rfl)
  exact retSp rfl rfl (setRow_heap _ _ _ _ _ _ V1.out) ⟨⟨_, rfl, SpV.leaf2 _ _ acc.length q.length⟩, ⟨_, _, P6.out.typ (kk _) G1.out V1.out.noRow⟩, K6.out.row _ _ (by omega) HBW.out⟩
/-- The lengths of texts. -/
theorem nmU_len (l : List Sy.Pg) (cur : ByteArray) (p n : List UInt8) : (nmU l cur p n).length ≤ p.length + 4 + 2 * n.length := by
 unfold nmU
 have w1 : ∀ q, (wordS n q).length ≤ 2 * n.length + 2 := fun q => by
  unfold wordS
  split
  · omega
  · exact escL_len 124 n
 split
 · have := w1 false; omega
 · have := w1 true
   simp only [List.length_append, List.length_cons]
   omega
theorem symOk_of {p n : List UInt8} (h : SyOk p n) : Sy.symOk (BA p) (BA n) = true := by
 obtain ⟨h1, h2, h3⟩ := h
 have hn : Sy.nameOk (BA n) = true := by
  unfold Sy.nameOk
  rw [BA_size, decide_eq_true h2, decide_eq_true h3]
  rfl
 unfold Sy.symOk
 rw [hn, Bool.and_true]
 rcases h1 with rfl | rfl
 · rfl
 · rfl
section
variable {nm : List UInt8 → List UInt8 → List UInt8}
theorem numS_len {k : Nat} {q : Rat} (hb : Bd k q) : (numS q).length ≤ 2 * k + 5 := by
 have e := congrArg ByteArray.size (numS_bytes q)
 rw [BA_size] at e
 rw [e]
 have z1 := bd_nt hb
 have z2 := bd_dt hb
 have z3 : (⟨#[47]⟩ : ByteArray).size = 1 := rfl
 split
 · omega
 · rw [ByteArray.size_append, ByteArray.size_append]; omega
/-- How long a text can be: c for each node. -/
theorem prO_len {k c : Nat} (hc : 4 * k + 100 ≤ c) (hnm : ∀ p n, SyOk p n → (nm p n).length ≤ 88) : ∀ (m : Nat) (o : Ob), o.nodes ≤ m → o.bd k → (prO nm o).length ≤ c * o.nodes ∧ (prT nm o).length ≤ c * o.nodes + 4 := by
 intro m
 induction m with
 | zero => intro o h; have := o.nodes_pos; omega
 | succ m ih =>
  intro o hm hb
  have atom : ∀ o : Ob, o.isCons = false → o.nodes = 1 → (prO nm o).length ≤ c → (prO nm o).length ≤ c * o.nodes ∧ (prT nm o).length ≤ c * o.nodes + 4 := fun o hf h1 h => by
   rw [prT_atom nm hf, h1]
   refine ⟨by omega, ?_⟩
   split
   · simp
   · simp only [List.length_cons, List.length_append, List.length_nil]; omega
  cases o with
  | num q => exact atom (.num q) rfl rfl (by have := numS_len (show Bd k q from hb); show (numS q).length ≤ c; omega)
  | str s => exact atom (.str s) rfl rfl (by have := escL_len 34 s; have h2 : s.length ≤ 2 * k + 20 := hb; show (escL 34 s).length ≤ c; omega)
  | sym x y => exact atom (.sym x y) rfl rfl (by have := hnm x y hb; show (nm x y).length ≤ c; omega)
  | cons a d =>
   have hn : (Ob.cons a d).nodes = 1 + a.nodes + d.nodes := rfl
   obtain ⟨a1, _⟩ := ih a (by omega) hb.1
   obtain ⟨_, d2⟩ := ih d (by omega) hb.2
   have e : c * (1 + a.nodes + d.nodes) = c + c * a.nodes + c * d.nodes := by rw [Nat.mul_add, Nat.mul_add, Nat.mul_one]
   refine ⟨?_, ?_⟩
   · rw [prO_cons, hn, e]
     split
     · rename_i hq
       cases d with
       | num q => cases hq
       | str s => cases hq
       | sym x y => cases hq
       | cons x e' =>
        have hd : (Ob.cons x e').nodes = 1 + x.nodes + e'.nodes := rfl
        obtain ⟨x1, _⟩ := ih x (by omega) hb.2.1
        show (prO nm x).length + 1 ≤ _
        have : c * (Ob.cons x e').nodes = c + c * x.nodes + c * e'.nodes := by rw [hd, Nat.mul_add, Nat.mul_add, Nat.mul_one]
        omega
     · simp only [List.length_cons, List.length_append]
       omega
   · have e2 : prT nm (.cons a d) = 32 :: (prO nm a ++ prT nm d) := rfl
     rw [e2, hn, e]
     simp only [List.length_cons, List.length_append]
     omega
theorem prO_ne (hnm : ∀ p n, SyOk p n → nm p n ≠ []) {k : Nat} {o : Ob} (hb : o.bd k) : prO nm o ≠ [] := by
 cases o with
 | num q => exact (numS_con q).2.1
 | str s => exact fun h => by have : escL 34 s = [] := h; unfold escL at this; simp at this
 | sym x y => exact hnm x y hb
 | cons a d => rw [prO_cons]; split <;> simp
end
theorem nmU_ne (l : List Sy.Pg) (cur : ByteArray) (p n : List UInt8) (h : SyOk p n) : nmU l cur p n ≠ [] := by
 unfold nmU
 split
 · unfold wordS
   split
   · intro e; have := h.2.1; rw [e] at this; simp at this
   · intro e; unfold escL at e; simp at e
 · simp
theorem nmU_len88 (l : List Sy.Pg) (cur : ByteArray) (p n : List UInt8) (h : SyOk p n) : (nmU l cur p n).length ≤ 88 := by
 have := nmU_len l cur p n
 obtain ⟨h1, h2, h3⟩ := h
 have : p.length ≤ 4 := by rcases h1 with rfl | rfl <;> decide
 omega
/-- The printing adds the text of this object, wherever it stands. -/
def PrC (W0 : World) (g : Nat) (l : List Sy.Pg) (lv : Value) (cur : ByteArray) (a : Ob) : Prop :=
 ∀ (w : World) (bp bv p : Value) (acc : List UInt8), Below W0.heap.size W0 w → PrW w W0.heap.size g lv cur bp bv acc → Hd W0 a p → acc.length + (prO (nmU l cur) a).length ≤ 100000000 →
  Calls Tryz.prog 50 #[.pointer (some ⟨g, 0, none⟩), vO a p] w (RetG W0.heap.size g lv cur (acc ++ prO (nmU l cur) a) (spU (nmU l cur) acc.length a) w)
theorem PrC.go {W0 : World} {g : Nat} {l : List Sy.Pg} {lv : Value} {cur : ByteArray} {a : Ob} (h : PrC W0 g l lv cur a) (w : World) (bp bv p : Value) (acc : List UInt8) (h1 : Below W0.heap.size W0 w) (h2 : PrW w W0.heap.size g lv cur bp bv acc) (h3 : Hd W0 a p) (h4 : acc.length + (prO (nmU l cur) a).length ≤ 100000000) :
 Calls Tryz.prog 50 #[.pointer (some ⟨g, 0, none⟩), vO a p] w (RetG W0.heap.size g lv cur (acc ++ prO (nmU l cur) a) (spU (nmU l cur) acc.length a) w) := h w bp bv p acc h1 h2 h3 h4
/-- The call added this text, and returned the spans of these elements. -/
def RetGE (B g : Nat) (lv : Value) (cur : ByteArray) (acc : List UInt8) (l : List Spn) (w : World) (e : Ending) (w' : World) : Prop :=
 (∃ v, e = .returned v ∧ SpL w' (fun b => w.heap.size ≤ b ∧ b < w'.heap.size) l v) ∧ (∃ bp bv, PrW w' B g lv cur bp bv acc) ∧ KpG B g w w'
theorem mergeU {G P : Prop} (g : G) (h : G → P) : P := h g
theorem Bx.frU {W : World} {g : Nat} {x : Array Value} (h : Bx W g x) (i : Nat) : W.frozen? ⟨g, i, none⟩ = false := by
 unfold Bx at h
 simp [World.frozen?, h]
theorem infoSp : ∃ i, Tryz.prog.info? 89 = some i ∧ i.zero = some (.agg #[.int .i64 0, .int .i64 0, .slice none 0 0]) ∧ i.size = 3 ∧ i.bytes = 40 := info_of (P := Tryz.prog) (t := 89) (z := .agg #[.int .i64 0, .int .i64 0, .slice none 0 0]) (a := 3) (b := 40) (by kernel_rfl)
theorem SpL.one {w : World} {S : Nat → Prop} {l : List Spn} {v : Value} (h : SpL w S l v) : v.oneCell' = true := by
 cases h <;> rfl
/-- The rest of the text of a list, c ahead of it. -/
def restU (nm : List UInt8 → List UInt8 → List UInt8) (c : UInt8) : Ob → List UInt8
 | .cons a d => c :: (prO nm a ++ prT nm d)
 | o => prT nm o
theorem restU_sp (nm : List UInt8 → List UInt8 → List UInt8) (t : Ob) : restU nm 32 t = prT nm t := by
 cases t <;> (unfold restU; try rfl)
theorem spE_flat (nm : List UInt8 → List UInt8 → List UInt8) (n : Nat) {t : Ob} (h : t.isCons = false) : spE nm n t = [] := by
 cases t with
 | cons a d => exact absurd h (by simp [Ob.isCons])
 | _ => rfl
theorem spE_len (nm : List UInt8 → List UInt8 → List UInt8) : ∀ (n : Nat) (t : Ob), (spE nm n t).length ≤ t.nodes
 | n, .cons a d => by
  have := spE_len nm (n + 1 + (prO nm a).length) d
  unfold spE
  show (spE nm (n + 1 + (prO nm a).length) d).length + 1 ≤ 1 + a.nodes + d.nodes
  omega
 | _, .num _ => by simp [spE]
 | _, .str _ => by simp [spE]
 | _, .sym _ _ => by simp [spE]
theorem kind_flat {t : Ob} (h : t.isCons = false) (q : Value) : ∃ (k : Int) (x1 x2 x3 x4 x5 : Value), cellsO t q = [.int .i64 k, x1, x2, x3, x4, x5, q] ∧ (k == 4) = false := by
 cases t with
 | cons a d => exact absurd h (by simp [Ob.isCons])
 | num x => exact ⟨1, _, _, _, _, _, rfl, rfl⟩
 | str s => exact ⟨3, _, _, _, _, _, rfl, rfl⟩
 | sym x y => exact ⟨2, _, _, _, _, _, rfl, rfl⟩
/-- Between rounds: the rest t in the box, the elements' spans in sl, A the text so far. -/
structure LsW (W0 w : World) (g : Nat) (l : List Sy.Pg) (lv : Value) (cur : ByteArray) (full : List UInt8) (L : List Spn) (pr : Bool) (N k : Nat) (wr : World) (sl : Value) (c : UInt8) (t : Ob) (q : Value) (xs : List (Spn × Value)) (A : List UInt8) (bp bv : Value) : Prop where
 box : Bx wr w.heap.size (cellsO t q).toArray
 hd : Hd W0 t q
 prw : PrW wr W0.heap.size g lv cur bp bv A
 spk : SpK (w.heap.size + 1) wr sl xs
 kg : KpG W0.heap.size g w wr
 txt : A ++ restU (nmU l cur) c t = full
 spn : xs.map (·.1) ++ spE (nmU l cur) A.length t = L
 prp : prpU t = pr
 nod : t.nodes ≤ N
 bd : t.bd k
 atm : t.isCons = false → xs ≠ []
theorem bx_noByte {w : World} {b : Nat} {x cur : Array Value} (h : Bx w b x) : w.heap[b]? ≠ some (.cells cur 5 (0, 0)) := fun e => by
 unfold Bx at h
 rw [h] at e
 injection e with e
 injection e with _ e _
 exact absurd e (by decide)
theorem LsW.step {W0 w : World} {g : Nat} {l : List Sy.Pg} {lv : Value} {cur : ByteArray} {full : List UInt8} {L : List Spn} {pr : Bool} {N k : Nat} {wr : World} {sl : Value} {c : UInt8} {a d : Ob} {q : Value} {xs : List (Spn × Value)} {A : List UInt8} {bp bv : Value}
 (h : LsW W0 w g l lv cur full L pr N k wr sl c (.cons a d) q xs A bp bv) (hg : g < w.heap.size) (hB : W0.heap.size ≤ w.heap.size)
 {w2 w3 w4 : World} {v' x : Value} {bp2 bv2 : Value} {S : Nat → Prop}
 (hk : KpG W0.heap.size g wr w2) (hp : PrW w2 W0.heap.size g lv cur bp2 bv2 (A ++ [c] ++ prO (nmU l cur) a))
 (hx : SpL w2 S (spU (nmU l cur) (A ++ [c]).length a).l x) (hS : ∀ b, S b → wr.heap.size ≤ b ∧ b < w2.heap.size) (h3 : Below w2.heap.size w2 w3)
 (h4 : w4.ownsRow (w.heap.size + 1) 89 3 v' (xs.length + 1) (flatS xs ++ [.int .i64 ((spU (nmU l cur) (A ++ [c]).length a).s : Int), .int .i64 ((spU (nmU l cur) (A ++ [c]).length a).e : Int), x])) (hgr : w3.grownBy w4 sl.ownBlock)
 (hat : v'.ownBlock = sl.ownBlock ∨ v'.ownBlock = some w3.heap.size) :
 SpK (w.heap.size + 1) w4 v' (xs ++ [(spU (nmU l cur) (A ++ [c]).length a, x)]) ∧ Bx w4 w.heap.size (cellsO (.cons a d) q).toArray ∧ PrW w4 W0.heap.size g lv cur bp2 bv2 (A ++ [c] ++ prO (nmU l cur) a) ∧ KpG W0.heap.size g w w4 := by
 have hbl := h.box.lt
 have hK2 : SpK (w.heap.size + 1) w2 sl xs := h.spk.kg hk (by omega)
 have hlt := own_lt h.spk.own
 have hs2 := hk.bel.size
 have hs3 := h3.size
 have hgne : w.heap.size ≠ g := by omega
 refine ⟨hK2.step hx (fun b hb => ⟨by have := (hS b hb).1; omega, (hS b hb).2, fun e => by have h1 := (hlt b e).2; have h2 := (hS b hb).1; omega⟩) h3 h4 hgr hat, ?_, hp.grown hK2 (by omega) h3 hgr, (h.kg.trans hk).grown hK2 hB (by omega) h3 hgr⟩
 have b2 := (h.box.kg hk hgne).keep h3
 exact (hgr.block w.heap.size (by omega) (fun e => by have := (own_lt hK2.own w.heap.size e.symm).1; omega)).trans b2
theorem LsW.step2 {W0 w : World} {g : Nat} {l : List Sy.Pg} {lv : Value} {cur : ByteArray} {full : List UInt8} {L : List Spn} {pr : Bool} {N k : Nat} {wr : World} {sl : Value} {c : UInt8} {a d : Ob} {q : Value} {xs : List (Spn × Value)} {A : List UInt8} {bp bv : Value}
 (h : LsW W0 w g l lv cur full L pr N k wr sl c (.cons a d) q xs A bp bv) (hg : g < w.heap.size) (hB : W0.heap.size ≤ w.heap.size)
 {w4 w5 : World} {v' x : Value} {bp2 bv2 pd : Value}
 (hst : SpK (w.heap.size + 1) w4 v' (xs ++ [(spU (nmU l cur) (A ++ [c]).length a, x)]) ∧ Bx w4 w.heap.size (cellsO (.cons a d) q).toArray ∧ PrW w4 W0.heap.size g lv cur bp2 bv2 (A ++ [c] ++ prO (nmU l cur) a) ∧ KpG W0.heap.size g w w4)
 (hd' : Hd W0 d pd) (h5 : Below w.heap.size w4 w5) (h5k : ∀ b, b ≠ w.heap.size → w5.heap[b]? = w4.heap[b]?) (h5b : Bx w5 w.heap.size (cellsO d pd).toArray) :
 LsW W0 w g l lv cur full L pr N k w5 v' 32 d pd (xs ++ [(spU (nmU l cur) (A ++ [c]).length a, x)]) (A ++ [c] ++ prO (nmU l cur) a) bp2 bv2 := by
 obtain ⟨hK, hbx, hP, hKG⟩ := hst
 have e1 : (A ++ [c]).length = A.length + 1 := by simp
 have e2 : (A ++ [c] ++ prO (nmU l cur) a).length = A.length + 1 + (prO (nmU l cur) a).length := by rw [List.length_append, e1]
 refine ⟨h5b, hd', ⟨hP.hB, (h5k g (by omega)).trans hP.blk, hP.ptr, hP.own.rows fun r cur' hr => h5k r (fun e => ?_)⟩, hK.keep h5.size (fun b cur' hb _ => h5k b (by omega)),
  ⟨hKG.bel.trans (h5.mono hB), fun j hj hjg hn => (h5k j (by omega)).trans (hKG.keep j hj hjg hn)⟩, ?_, ?_, h.prp, ?_, h.bd.2, fun _ => by simp⟩
 · subst e; exact bx_noByte hbx hr
 · rw [restU_sp, ← h.txt]
   show A ++ [c] ++ prO (nmU l cur) a ++ prT (nmU l cur) d = A ++ c :: (prO (nmU l cur) a ++ prT (nmU l cur) d)
   simp
 · rw [← h.spn, e1, e2]
   show _ = xs.map (·.1) ++ (spU (nmU l cur) (A.length + 1) a :: spE (nmU l cur) (A.length + 1 + (prO (nmU l cur) a).length) d)
   simp
 · have := h.nod
   have e : (Ob.cons a d).nodes = 1 + a.nodes + d.nodes := rfl
   omega
/-- Seven stores into a box. -/
theorem setB {W : World} {g : Nat} {x : Array Value} (h : Bx W g x) (hx : x.size = 7) (y0 y1 y2 y3 y4 y5 y6 : Value) : Bx (W.setCells g 0 [y0, y1, y2, y3, y4, y5, y6]) g #[y0, y1, y2, y3, y4, y5, y6] := by
 obtain ⟨l⟩ := x
 match l, hx with
 | [x0, x1, x2, x3, x4, x5, x6], _ =>
  unfold Bx at h ⊢
  simp [World.setCells, World.setCell, Array.getElem?_modify, h]
theorem Bx.drewU {W : World} {g : Nat} {x : Array Value} (h : Bx W g x) : Bx W.drew g x := h
theorem drewHeap (W : World) (b : Nat) : W.drew.heap[b]? = W.heap[b]? := rfl
theorem LsW.put {W0 w : World} {g : Nat} {l : List Sy.Pg} {lv : Value} {cur : ByteArray} {full : List UInt8} {L : List Spn} {pr : Bool} {N k : Nat} {wr : World} {sl : Value} {c : UInt8} {a d : Ob} {q : Value} {xs : List (Spn × Value)} {A : List UInt8} {bp bv : Value}
 (h : LsW W0 w g l lv cur full L pr N k wr sl c (.cons a d) q xs A bp bv) (hg : g < w.heap.size) (hB : W0.heap.size ≤ w.heap.size)
 {w4 : World} {v' x : Value} {bp2 bv2 pd : Value}
 (hst : SpK (w.heap.size + 1) w4 v' (xs ++ [(spU (nmU l cur) (A ++ [c]).length a, x)]) ∧ Bx w4 w.heap.size (cellsO (.cons a d) q).toArray ∧ PrW w4 W0.heap.size g lv cur bp2 bv2 (A ++ [c] ++ prO (nmU l cur) a) ∧ KpG W0.heap.size g w w4)
 (hd' : Hd W0 d pd) (y0 y1 y2 y3 y4 y5 : Value) (ed : cellsO d pd = [y0, y1, y2, y3, y4, y5, pd]) :
 LsW W0 w g l lv cur full L pr N k (World.drew (((((((w4.setCell ⟨w.heap.size, 0, none⟩ y0).setCell ⟨w.heap.size, 1, none⟩ y1).setCell ⟨w.heap.size, 2, none⟩ y2).setCell ⟨w.heap.size, 3, none⟩ y3).setCell ⟨w.heap.size, 4, none⟩ y4).setCell ⟨w.heap.size, 5, none⟩ y5).setCell ⟨w.heap.size, 6, none⟩ pd)) v' 32 d pd (xs ++ [(spU (nmU l cur) (A ++ [c]).length a, x)]) (A ++ [c] ++ prO (nmU l cur) a) bp2 bv2 := by
 have e : (((((((w4.setCell ⟨w.heap.size, 0, none⟩ y0).setCell ⟨w.heap.size, 1, none⟩ y1).setCell ⟨w.heap.size, 2, none⟩ y2).setCell ⟨w.heap.size, 3, none⟩ y3).setCell ⟨w.heap.size, 4, none⟩ y4).setCell ⟨w.heap.size, 5, none⟩ y5).setCell ⟨w.heap.size, 6, none⟩ pd) = w4.setCells w.heap.size 0 [y0, y1, y2, y3, y4, y5, pd] := rfl
 rw [e]
 have hx : Bx (w4.setCells w.heap.size 0 [y0, y1, y2, y3, y4, y5, pd]) w.heap.size (cellsO d pd).toArray := by
  rw [ed]
  exact setB hst.2.1 (by simp [cellsO_length]) y0 y1 y2 y3 y4 y5 pd
 exact h.step2 hg hB hst hd' (Below.drew (setCells_below (Nat.le_refl _) _ _ _ (Below.refl _ _))) (fun b hb => (drewHeap _ b).trans (setCells_other w.heap.size b hb _ _ _)) hx.drewU
theorem onesU {w : World} {S : Nat → Prop} {o : Ob} {p x0 x1 x2 x3 x4 x5 : Value} (h : Pair w S o p) (hz : cellsO o p = [x0, x1, x2, x3, x4, x5, p]) : x0.oneCell' = true ∧ x1.oneCell' = true ∧ x2.oneCell' = true ∧ x3.oneCell' = true ∧ x4.oneCell' = true ∧ x5.oneCell' = true ∧ p.oneCell' = true := by
 have h1 := h.one
 rw [hz, Array.all_eq_true_iff_forall_mem] at h1
 exact ⟨h1 _ (by simp), h1 _ (by simp), h1 _ (by simp), h1 _ (by simp), h1 _ (by simp), h1 _ (by simp), h1 _ (by simp)⟩
theorem listG (W0 w : World) (g : Nat) (l : List Sy.Pg) (lv : Value) (cur : ByteArray) (a d : Ob) (p bp bv : Value) (acc : List UInt8) (k : Nat) (hb : (Ob.cons a d).bd k) (hn : (Ob.cons a d).nodes ≤ 3000)
 (hW : Below W0.heap.size W0 w) (hP : PrW w W0.heap.size g lv cur bp bv acc) (hp : Hd W0 (.cons a d) p) (hz : (acc ++ 40 :: (prO (nmU l cur) a ++ prT (nmU l cur) d)).length ≤ 100000000)
 (co : ∀ x, x.nodes < (Ob.cons a d).nodes → x.bd k → PrC W0 g l lv cur x) :
 Calls Tryz.prog 111 #[.pointer (some ⟨g, 0, none⟩), vO (.cons a d) p] w (RetGE W0.heap.size g lv cur (acc ++ 40 :: (prO (nmU l cur) a ++ prT (nmU l cur) d)) (if prpU d = true then spE (nmU l cur) acc.length (.cons a d) else []) w) := by
 have CO := qh9 co
 have HBW := qh9 hW
 have HGL := qh9 hP.lt
 have ea : cellsO (.cons a d) p = [.int .i64 4, .string ⟨#[]⟩, .string ⟨#[]⟩, .string ⟨#[]⟩, .string ⟨#[]⟩, .string ⟨#[]⟩, p] := rfl
 have T := Bx1.new w #[.int .i64 4, .string ⟨#[]⟩, .string ⟨#[]⟩, .string ⟨#[]⟩, .string ⟨#[]⟩, .string ⟨#[]⟩, p]
 have hnod : 1 + a.nodes + d.nodes ≤ 3000 := hn
 obtain ⟨N, hN⟩ : ∃ N, (Ob.cons a d).nodes = N := ⟨_, rfl⟩
 have HNN : Hid (2 ≤ N ∧ N ≤ 3000) := by
  have e : (Ob.cons a d).nodes = 1 + a.nodes + d.nodes := rfl
  have := a.nodes_pos
  exact ⟨by omega, by omega⟩
 obtain ⟨full, hf⟩ : ∃ full, acc ++ 40 :: (prO (nmU l cur) a ++ prT (nmU l cur) d) = full := ⟨_, rfl⟩
 obtain ⟨L, hL⟩ : ∃ L, spE (nmU l cur) acc.length (.cons a d) = L := ⟨_, rfl⟩
 obtain ⟨pr, hpr⟩ : ∃ pr, prpU d = pr := ⟨_, rfl⟩
 have HLL : Hid (L.length ≤ 3000) := by
  show L.length ≤ 3000
  rw [← hL]
  have := spE_len (nmU l cur) acc.length (.cons a d)
  omega
 rw [hf] at hz ⊢
 rw [hL, hpr]
 rw [hN] at CO
 have HZ := qh9 hz
 obtain ⟨R, hR⟩ : ∃ R, (if pr = true then L else []) = R := ⟨_, rfl⟩
 rw [hR]
 have HR := qh9 hR
 have H0 : Hid (∀ W, Below w.heap.size w W → Bx W w.heap.size #[.int .i64 4, .string ⟨#[]⟩, .string ⟨#[]⟩, .string ⟨#[]⟩, .string ⟨#[]⟩, .string ⟨#[]⟩, p] → LsW W0 w g l lv cur full L pr N k W (.slice none 0 0) 40 (.cons a d) p [] acc bp bv) := fun W h hx =>
  ⟨hx, hp, hP.keep h, SpK.start _ _, KpG.of h hW.size, hf, by simpa using hL, hpr, by omega, hb, fun h => absurd h (by simp [Ob.isCons])⟩
 rw [vO_cells ea]
 clear hz hR hf hL hpr co hW hP hnod ea hb hn hp
 obtain ⟨i0, hi0, hz0, hz1, hz2⟩ := infoSp
 have HI0 := qh9 hi0
 have HZ0 := qh9 hz0
 have HZ1 := qh9 hz1
 have HZ2 := qh9 hz2
 clear hi0 hz0 hz1 hz2
 go_enter Tryz.func111, Tryz.ntmps111
 go_upto_region 1 with fail
 generalize w.alloc (.cells #[.int .i64 4, .string ⟨#[]⟩, .string ⟨#[]⟩, .string ⟨#[]⟩, .string ⟨#[]⟩, .string ⟨#[]⟩, p] 39) = W at T ⊢
 have h0 := qh9 (H0.out W T.bel T.b0)
 clear T H0
 go_wp2_with fail
 go_loopg [5, 6] N (fun gh u v wr => ∃ (t : Ob) (q : Value) (c : UInt8) (xs : List (Spn × Value)) (sl : Value) (A : List UInt8) (bp bv : Value), sl = u ∧ v = .string ⟨#[c]⟩ ∧ t.nodes ≤ gh ∧ Hid (LsW W0 w g l lv cur full L pr N k wr sl c t q xs A bp bv))
 case atStart => exact ⟨_, p, 40, [], _, acc, bp, bv, rfl, rfl, h0.out.nod, h0⟩
 case round =>
  clear h0
  obtain ⟨t, q, c, xs, sl, A, bp, bv, rfl, rfl, hgh, hE⟩ := hrel
  obtain ⟨wo, rfl⟩ : ∃ wo : World, wo = wr := ⟨_, rfl⟩
  have HB1 := qh9 (HBW.out.trans hE.out.kg.bel)
  have hgne : w.heap.size ≠ g := by have := HGL.out; omega
  have HGN := qh9 hgne
  clear hgne
  cases ht : t.isCons with
  | true =>
   cases t with
   | num _ => simp [Ob.isCons] at ht
   | str _ => simp [Ob.isCons] at ht
   | sym _ _ => simp [Ob.isCons] at ht
   | cons a' d' =>
    clear ht
    obtain ⟨b, o, cc, pa, pd, rfl, hcc, hA, hD⟩ := hE.out.hd.consU
    have hnn : (Ob.cons a' d').nodes = 1 + a'.nodes + d'.nodes := rfl
    have hna := a'.nodes_pos
    have hnd := d'.nodes_pos
    have hlt : d'.nodes < gk := by omega
    have hNt := hE.out.nod
    have CA := qh9 (CO.out a' (by omega) hE.out.bd.1)
    have B0 : Hid (Bx wo w.heap.size #[.int .i64 4, .string ⟨#[]⟩, .string ⟨#[]⟩, .string ⟨#[]⟩, .string ⟨#[]⟩, .string ⟨#[]⟩, .slice (some ⟨b, o, none⟩) 2 cc]) := hE.out.box
    have HA := qh9 hA
    have HD := qh9 hD
    have hzA : A.length + 1 + (prO (nmU l cur) a').length ≤ 100000000 := by
     have h1 := hE.out.txt
     have h2 := HZ.out
     rw [← h1] at h2
     unfold restU at h2
     simp only [List.length_append, List.length_cons] at h2
     omega
    have HZA := qh9 hzA
    have hbw : b ≠ w.heap.size := by
     have h1 : b < W0.heap.size := hA.1.1
     have h2 := HBW.out.size
     omega
    have HBN := qh9 hbw
    have hxl : xs.length ≤ 3000 := by
     have h1 := HLL.out
     rw [← hE.out.spn] at h1
     simp only [List.length_append, List.length_map] at h1
     omega
    clear hA hD hzA hbw hnn hna hnd hNt hgh
    obtain ⟨m0, m1, m2, m3, m4, m5, m6⟩ := Bx.c B0.out
    go_wp2_with fail
    with_reducible refine (writeG wo _ g lv cur _ _ A ⟨#[c]⟩ hE.out.prw (by have := HZA.out; have e1 : (⟨#[c]⟩ : ByteArray).size = 1 := rfl; omega)).mono ?_
    rintro e w1 ⟨rfl, ⟨bv1, hp1⟩, hk1⟩
    have HP1 : Hid (PrW w1 W0.heap.size g lv cur (.pointer (some ⟨g, 2, none⟩)) bv1 (A ++ [c])) := hp1
    have HK1 := qh9 hk1
    replace B0 := qh9 (B0.out.kg hk1 HGN.out)
    replace HB1 := qh9 (HB1.out.trans hk1.bel)
    clear hp1 hk1 m0 m1 m2 m3 m4 m5 m6
    obtain ⟨m0, m1, m2, m3, m4, m5, m6⟩ := Bx.c B0.out
    have HA1 := qh9 (HA.out.below HB1.out)
    go_wp2_with ((with_reducible refine loadAU ?_ ?_ HA1.out ?_); exact ⟨_, rfl, rfl⟩; rfl)
    with_reducible refine (CA.out.go w1 _ _ pa (A ++ [c]) HB1.out HP1.out HA.out.hd (by have := HZA.out; simp only [List.length_append, List.length_cons, List.length_nil]; omega)).mono ?_
    rintro e w2 ⟨⟨v, rfl, hv⟩, ⟨bp2, bv2, hp2⟩, hk2⟩
    obtain ⟨x, rfl, hx⟩ := hv
    have HX1 : Hid (x.oneCell' = true) := hx.one
    have hs12 := HK1.out.bel.size
    have HSTEP := qh9 (fun (v' : Value) (w4 : World) h4 hgr hat => hE.out.step (v' := v') (w4 := w4) (x := x) (bp2 := bp2) (bv2 := bv2) HGL.out HBW.out.size (HK1.out.trans hk2) hp2 hx (fun b hb => ⟨by have := hb.1; omega, hb.2⟩) (below_al w2 (.cells #[.int .i64 ((spU (nmU l cur) (A ++ [c]).length a').s : Int), .int .i64 ((spU (nmU l cur) (A ++ [c]).length a').e : Int), x] 89)) h4 hgr hat)
    have own3 := qh9 ((hE.out.spk.kg (HK1.out.trans hk2) (by have := HGL.out; omega)).below (below_al w2 (.cells #[.int .i64 ((spU (nmU l cur) (A ++ [c]).length a').s : Int), .int .i64 ((spU (nmU l cur) (A ++ [c]).length a').e : Int), x] 89))).own
    have hs3 : w.heap.size + 1 ≤ (w2.alloc (.cells #[.int .i64 ((spU (nmU l cur) (A ++ [c]).length a').s : Int), .int .i64 ((spU (nmU l cur) (A ++ [c]).length a').e : Int), x] 89)).heap.size := by
     have h1 := hE.out.kg.bel.size
     have h2 := hk2.bel.size
     simp only [World.size_alloc]
     have h3 := hE.out.box.lt
     omega
    have HST2 := qh9 (fun (v' : Value) (w4 : World) h y0 y1 y2 y3 y4 y5 ed => hE.out.put (v' := v') (w4 := w4) (x := x) (bp2 := bp2) (bv2 := bv2) HGL.out HBW.out.size h HD.out.hd y0 y1 y2 y3 y4 y5 ed)
    generalize ((spU (nmU l cur) (A ++ [c]).length a').s : Int) = zs at HSTEP own3 hs3 ⊢
    generalize ((spU (nmU l cur) (A ++ [c]).length a').e : Int) = ze at HSTEP own3 hs3 ⊢
    have HONE : Hid (∀ u ∈ [Value.int .i64 zs, .int .i64 ze, x], u.oneCell' = true) := fun u hu => by
     simp only [List.mem_cons, List.not_mem_nil, or_false] at hu
     rcases hu with rfl | rfl | rfl
     · rfl
     · rfl
     · exact HX1.out
    have HNEWS : Hid (∀ j u, [Value.int .i64 zs, .int .i64 ze, x][j]? = some u → (w2.alloc (.cells #[.int .i64 zs, .int .i64 ze, x] 89)).cell? ((⟨w2.heap.size, 0, none⟩ : Addr).add j) = some u) := newsO (cs := #[.int .i64 zs, .int .i64 ze, x]) rfl
    obtain ⟨n, hxn⟩ : ∃ n, xs.length = n := ⟨_, rfl⟩
    rw [hxn] at hxl own3
    have HSTEP' : Hid (∀ (v' : Value) (w4 : World), w4.ownsRow (w.heap.size + 1) 89 3 v' (n + 1) (flatS xs ++ [.int .i64 zs, .int .i64 ze, x]) → _ → _ → _) := fun v' w4 h4 hgr hat => HSTEP.out v' w4 (by rw [hxn]; exact h4) hgr hat
    have HB2 := qh9 (HB1.out.trans hk2.bel)
    clear HSTEP hk2 hp2 hx m0 m1 m2 m3 m4 m5 m6 HA HA1 B0 hs12 hxn HK1 HP1 HX1
    go_upto_region 6 with (at_builtin; refine wpList_append_own_at _ rfl (.tmp 15) (.tmp 22) _ rfl (w.heap.size + 1) 89 i0 _ 3 40 Tryz.underlying87 HI0.out HZ0.out HZ1.out HZ2.out rfl (by omega) sl n (flatS xs) rfl own3.out ⟨w2.heap.size, 0, none⟩ 1 1 [.int .i64 zs, .int .i64 ze, x] rfl rfl HNEWS.out HONE.out (by simp only [maxLen]; omega) (by omega) hs3 ?_; intro v4 w4 hown4 hg4 hnil4 hat4; have hst := qh9 (HSTEP'.out v4 w4 hown4 hg4 hat4); clear hown4 hg4 hnil4 hat4)
    have HB4 := qh9 (HBW.out.trans hst.out.2.2.2.bel)
    have HD4 := HD.out.below HB4.out
    have HD5 := HD.out.below (Below.drew HB4.out)
    have B4 : Hid (Bx w4 w.heap.size #[.int .i64 4, .string ⟨#[]⟩, .string ⟨#[]⟩, .string ⟨#[]⟩, .string ⟨#[]⟩, .string ⟨#[]⟩, .slice (some ⟨b, o, none⟩) 2 cc]) := hst.out.2.1
    have B5 : Hid (Bx w4.drew w.heap.size #[.int .i64 4, .string ⟨#[]⟩, .string ⟨#[]⟩, .string ⟨#[]⟩, .string ⟨#[]⟩, .string ⟨#[]⟩, .slice (some ⟨b, o, none⟩) 2 cc]) := hst.out.2.1
    obtain ⟨m0, m1, m2, m3, m4, m5, m6⟩ := Bx.c B4.out
    obtain ⟨n0, n1, n2, n3, n4, n5, n6⟩ := Bx.c B5.out
    have f0 := Bx.frU B4.out 0
    have ff0 := Bx.frU B5.out 0
    have f1 := Bx.frU B4.out 1
    have ff1 := Bx.frU B5.out 1
    have f2 := Bx.frU B4.out 2
    have ff2 := Bx.frU B5.out 2
    have f3 := Bx.frU B4.out 3
    have ff3 := Bx.frU B5.out 3
    have f4 := Bx.frU B4.out 4
    have ff4 := Bx.frU B5.out 4
    have f5 := Bx.frU B4.out 5
    have ff5 := Bx.frU B5.out 5
    have f6 := Bx.frU B4.out 6
    have ff6 := Bx.frU B5.out 6
    obtain ⟨y0, y1, y2, y3, y4, y5, ed, l0, l1, l2, l3, l4, l5, l6⟩ := HD4.cells
    obtain ⟨_, _, _, _, _, _, ed', k0, k1, k2, k3, k4, k5, k6⟩ := HD5.cells
    rw [ed] at ed'
    simp only [List.cons.injEq, and_true] at ed'
    obtain ⟨rfl, rfl, rfl, rfl, rfl, rfl⟩ := ed'
    obtain ⟨on0, on1, on2, on3, on4, on5, on6⟩ := onesU HD.out.hd ed
    have st0 : ∀ (a : Addr) (w : World), (store a y0).run Tryz.prog w = stored Tryz.prog w a y0 .plain := fun a w => run_store Tryz.prog w a _ _ on0
    have st1 : ∀ (a : Addr) (w : World), (store a y1).run Tryz.prog w = stored Tryz.prog w a y1 .plain := fun a w => run_store Tryz.prog w a _ _ on1
    have st2 : ∀ (a : Addr) (w : World), (store a y2).run Tryz.prog w = stored Tryz.prog w a y2 .plain := fun a w => run_store Tryz.prog w a _ _ on2
    have st3 : ∀ (a : Addr) (w : World), (store a y3).run Tryz.prog w = stored Tryz.prog w a y3 .plain := fun a w => run_store Tryz.prog w a _ _ on3
    have st4 : ∀ (a : Addr) (w : World), (store a y4).run Tryz.prog w = stored Tryz.prog w a y4 .plain := fun a w => run_store Tryz.prog w a _ _ on4
    have st5 : ∀ (a : Addr) (w : World), (store a y5).run Tryz.prog w = stored Tryz.prog w a y5 .plain := fun a w => run_store Tryz.prog w a _ _ on5
    have st6 : ∀ (a : Addr) (w : World), (store a pd).run Tryz.prog w = stored Tryz.prog w a pd .plain := fun a w => run_store Tryz.prog w a _ _ on6
    have HL5 := qh9 (HST2.out v4 w4 hst.out y0 y1 y2 y3 y4 y5 ed)
    have hbw := HBN.out
    have hwb : ¬ w.heap.size = b := fun e => hbw e.symm
    clear hst HB4 HD4 HD5 B4 B5 ed on0 on1 on2 on3 on4 on5 on6 HST2 HSTEP' own3 HNEWS HONE
    apply mergeU
    case h =>
     intro hG
     go_region_with (fail)
     all_goals exact hG
    clear m0 m1 m2 m3 m4 m5 m6 n0 n1 n2 n3 n4 n5 n6 f0 f1 f2 f3 f4 f5 f6 ff0 ff1 ff2 ff3 ff4 ff5 ff6 l0 l1 l2 l3 l4 l5 l6 k0 k1 k2 k3 k4 k5 k6 st0 st1 st2 st3 st4 st5 st6
    go_wp2_with fail
    go_roundg d'.nodes
    all_goals first | exact hlt | exact ⟨d', pd, 32, _, v4, _, _, _, rfl, rfl, Nat.le_refl _, HL5⟩
  | false =>
   obtain ⟨kk, x1, x2, x3, x4, x5, ek, hk4⟩ := kind_flat ht q
   have BB : Hid (Bx wo w.heap.size (cellsO t q).toArray) := hE.out.box
   have B0 : Hid (Bx wo w.heap.size #[.int .i64 kk, x1, x2, x3, x4, x5, q]) := by
    have := hE.out.box
    rwa [ek] at this
   have CN : Hid (∀ X, Calls Tryz.prog 153 #[vO t q] X (RetB X (decide (t = .nil)))) := fun X => isNilP t q X
   have htx := hE.out.txt
   have hre : restU (nmU l cur) c t = prT (nmU l cur) t := by
    cases t with
    | cons _ _ => simp [Ob.isCons] at ht
    | _ => rfl
   rw [hre, prT_atom _ ht] at htx
   have hsp := hE.out.spn
   rw [spE_flat _ _ ht, List.append_nil] at hsp
   have hpp := hE.out.prp
   have hpt : prpU t = decide (t = .nil) := by
    cases t with
    | cons _ _ => simp [Ob.isCons] at ht
    | _ => rfl
   rw [hpt] at hpp
   have hne := hE.out.atm ht
   have hnt : t.nodes < N := by
    have h1 := HNN.out.1
    have h2 : t.nodes = 1 := by
     cases t with
     | cons _ _ => simp [Ob.isCons] at ht
     | _ => rfl
    omega
   have CT := qh9 (CO.out t hnt hE.out.bd)
   have HSK := qh9 hE.out.spk
   have HPW := qh9 hE.out.prw
   have HKG := qh9 hE.out.kg
   have HHD := qh9 hE.out.hd
   clear hgh hre hpt ek ht hnt
   obtain ⟨m0, m1, m2, m3, m4, m5, m6⟩ := Bx.c B0.out
   by_cases hnil : t = .nil
   · rw [decide_eq_true hnil] at CN hpp
     rw [if_pos hnil] at htx
     rw [← hpp, if_pos rfl, ← hsp] at HR
     have HT := qh9 htx
     have HNE := qh9 hne
     clear hE htx hsp hpp hne hnil
     go_wp2_with (first | ((with_reducible refine loadB (.tmp 3) ?_ ?_ ?_ BB.out ?_); rfl; rfl; rfl))
     with_reducible refine (CN.out _).mono ?_
     rintro e w1 ⟨rfl, hb⟩
     replace HPW := qh9 (HPW.out.keep hb)
     replace HKG := qh9 (HKG.out.trans (KpG.of hb (HB1.out.size)))
     replace HSK := qh9 (HSK.out.below hb)
     have HSP := qh9 (HSK.out.fin HNE.out)
     clear hb m0 m1 m2 m3 m4 m5 m6
     go_wp2_with fail
     with_reducible refine (writeG w1 _ g lv cur _ _ A ⟨#[41]⟩ HPW.out (by have h1 := HZ.out; have h2 := HT.out; rw [← h2] at h1; simp only [List.length_append, List.length_cons, List.length_nil] at h1; have e1 : (⟨#[41]⟩ : ByteArray).size = 1 := rfl; omega)).mono ?_
     rintro e w2 ⟨rfl, ⟨bv2, hp2⟩, hk2⟩
     have HP2 : Hid (PrW w2 W0.heap.size g lv cur (.pointer (some ⟨g, 2, none⟩)) bv2 full) := by
      have e : A ++ [41] = full := HT.out
      rw [← e]
      exact hp2
     have hgg := HGL.out
     have HSP2 : Hid (SpL w2 (fun b => w.heap.size ≤ b ∧ b < w2.heap.size) R sl) := by
      rw [← HR.out]
      exact HSP.out.kg (fun b hb => ⟨by have := hb.1; omega, by have := hb.2; have := hk2.bel.size; omega⟩) (fun b hb => by have := hb.1; omega) hk2
     have KF := qh9 (HKG.out.trans hk2)
     clear hp2 hk2 hgg
     go_wp2
     go_ret
     exact ⟨⟨sl, rfl, HSP2.out⟩, ⟨_, _, HP2.out⟩, KF.out⟩
   · rw [decide_eq_false hnil] at CN hpp
     rw [if_neg hnil] at htx
     rw [← hpp, if_neg (by simp)] at HR
     have HT := qh9 htx
     have hzl : A.length + 3 + (prO (nmU l cur) t).length + 1 ≤ 100000000 := by
      have h1 := HZ.out
      rw [← htx] at h1
      simp only [List.length_append, List.length_cons, List.length_nil] at h1
      omega
     have HZL := qh9 hzl
     clear hE htx hsp hpp hne hnil hzl
     go_wp2_with (first | ((with_reducible refine loadB (.tmp 3) ?_ ?_ ?_ BB.out ?_); rfl; rfl; rfl))
     with_reducible refine (CN.out _).mono ?_
     rintro e w1 ⟨rfl, hb⟩
     replace HPW := qh9 (HPW.out.keep hb)
     replace HKG := qh9 (HKG.out.trans (KpG.of hb (HB1.out.size)))
     replace BB := qh9 (BB.out.keep hb)
     clear hb m0 m1 m2 m3 m4 m5 m6 B0
     go_wp2_with fail
     with_reducible refine (writeG w1 _ g lv cur _ _ A ⟨#[32, 46, 32]⟩ HPW.out (by have := HZL.out; have e1 : (⟨#[32, 46, 32]⟩ : ByteArray).size = 3 := rfl; omega)).mono ?_
     rintro e w2 ⟨rfl, ⟨bv2, hp2⟩, hk2⟩
     have HP2 : Hid (PrW w2 W0.heap.size g lv cur (.pointer (some ⟨g, 2, none⟩)) bv2 (A ++ [32, 46, 32])) := hp2
     replace BB := qh9 (BB.out.kg hk2 HGN.out)
     replace HKG := qh9 (HKG.out.trans hk2)
     have HB2 := qh9 (HBW.out.trans HKG.out.bel)
     clear hp2 hk2
     go_wp2_with (first | ((with_reducible refine loadB (.tmp 3) ?_ ?_ ?_ BB.out ?_); rfl; rfl; rfl))
     with_reducible refine (CT.out.go w2 _ _ q (A ++ [32, 46, 32]) HB2.out HP2.out HHD.out (by have := HZL.out; simp only [List.length_append, List.length_cons, List.length_nil]; omega)).mono ?_
     rintro e w3 ⟨⟨v, rfl, _⟩, ⟨bp3, bv3, hp3⟩, hk3⟩
     have HP3 := qh9 hp3
     replace HKG := qh9 (HKG.out.trans hk3)
     clear hp3 hk3
     go_wp2_with fail
     with_reducible refine (writeG w3 _ g lv cur _ _ (A ++ [32, 46, 32] ++ prO (nmU l cur) t) ⟨#[41]⟩ HP3.out (by have := HZL.out; simp only [List.length_append, List.length_cons, List.length_nil]; have e1 : (⟨#[41]⟩ : ByteArray).size = 1 := rfl; omega)).mono ?_
     rintro e w4 ⟨rfl, ⟨bv4, hp4⟩, hk4⟩
     have HP4 : Hid (PrW w4 W0.heap.size g lv cur (.pointer (some ⟨g, 2, none⟩)) bv4 full) := by
      have e : A ++ [32, 46, 32] ++ prO (nmU l cur) t ++ [41] = full := by
       rw [← HT.out]
       simp
      rw [← e]
      exact hp4
     have KF := qh9 (HKG.out.trans hk4)
     clear hp4 hk4
     go_wp2
     go_ret
     rw [← HR.out]
     exact ⟨⟨_, rfl, .nil⟩, ⟨_, _, HP4.out⟩, KF.out⟩
theorem belDN (w : World) (n : Nat) : Below w.heap.size w (w.drewN n) := ⟨rfl, rfl, rfl, Nat.le_refl _, fun _ _ => rfl⟩
/-- One box that has been made and filled. -/
structure Pt1U (w X : World) (o : Ob) (p : Value) : Prop where
 bel : Below w.heap.size w X
 b0 : Bx X w.heap.size (cellsO o p).toArray
theorem Pt1U.new {w : World} {o : Ob} {p : Value} {z : Array Value} : Pt1U w (World.setRow (w.alloc (.cells z 39)) w.heap.size (cellsO o p).toArray) o p := by
 have T := Bx1.new w z
 exact ⟨below_setRowO T.bel (Nat.le_refl _) _, T.b0.set⟩
/-- The call returned an object and true, or the zero object and false. -/
def RetQU (W0 w : World) (m : Option Ob) (e : Ending) (w' : World) : Prop := match m with
 | some o => ∃ q, e = .returned (.tuple #[vO o q, .bool true]) ∧ Hd W0 o q ∧ Below w.heap.size w w'
 | none => e = .returned (.tuple #[.agg zeroC, .bool false]) ∧ Below w.heap.size w w'
/-- A store of the zero object into a box. -/
theorem storeZU {ops : Array Oper} {rest : List Oper} {o : Oper} {a : Act} {w : World} {Q : Exit → Act → World → Prop} {g : Nat} {x0 x1 x2 x3 x4 x5 x6 : Value} (x y : Operand) (ho : o.op = .store 39 x y) (hgd : o.guard = none)
 (hx : a.eval x = .pointer (some ⟨g, 0, none⟩)) (hy : a.eval y = .agg zeroC) (hg : Bx w g #[x0, x1, x2, x3, x4, x5, x6])
 (h : wpList Tryz.prog ops Q rest (a.put o.dst undef) (w.setRow g zeroC)) : wpList Tryz.prog ops Q (o :: rest) a w :=
 storeO hgd x y ho g _ hx hy _ _ hg rfl rfl (by simp [zeroC, Value.oneCell']) h
theorem load_row7U (w : World) (g : Nat) (cs : Array Value) (hg : Bx w g cs) (hs : cs.size = 7) : (loadVar 39 ⟨g, 0, none⟩).run Tryz.prog w = .ok (.agg cs) w :=
 run_loadVar_row w g 39 39 cs (0, 0) _ hg Tryz.underlying39 rfl (by rw [hs]; kernel_rfl)
theorem results_csU {fn : Func} {r0 r1 : Tmp} (h : fn.results = #[.cell r0 39, .tmp r1]) (tmps : Array Value) (w : World) (g0 : Nat) (c0 : Array Value)
 (h0 : tmps.getD r0 undef = .pointer (some ⟨g0, 0, none⟩)) (b0 : Bx w g0 c0) (s0 : c0.size = 7) :
 (results fn tmps).run Tryz.prog w = .ok (.tuple #[.agg c0, tmps.getD r1 undef]) w := by
 have h0' : tmps[r0]?.getD undef = .pointer (some ⟨g0, 0, none⟩) := by simpa using h0
 simp [results, h, h0', asAddr, load_row7U w g0 c0 b0 s0]

theorem retQNs {fn : Func} {q r : Tmp} {W0 w0 w : World} {tmps : Array Value} {g : Nat} {x : Array Value} (h : fn.results = #[.cell q 39, .tmp r]) (hq : tmps.getD q undef = .pointer (some ⟨g, 0, none⟩)) (hr : tmps.getD r undef = .bool false)
 (hg : Bx w g x) (hlt : w0.heap.size ≤ g) (hb : Below w0.heap.size w0 w) : bodyPost Tryz.prog fn (RetQU W0 w0 none) Exit.ret ⟨tmps, []⟩ (w.setRow g zeroC) :=
 bodyPost_ret (results_csU h tmps _ g _ hq hg.set rfl) rfl ⟨by rw [hr], below_setRowO hb hlt _⟩
theorem retQSs {fn : Func} {q r : Tmp} {W0 w0 w : World} {tmps : Array Value} {g : Nat} {o : Ob} {p : Value} {x : Array Value} (h : fn.results = #[.cell q 39, .tmp r]) (hq : tmps.getD q undef = .pointer (some ⟨g, 0, none⟩)) (hr : tmps.getD r undef = .bool true)
 (hg : Bx w g x) (hx : x.size = 7) (hp : Hd W0 o p) (hlt : w0.heap.size ≤ g) (hb : Below w0.heap.size w0 w) : bodyPost Tryz.prog fn (RetQU W0 w0 (some o)) Exit.ret ⟨tmps, []⟩ (w.setRow g (cellsO o p).toArray) :=
 bodyPost_ret (results_csU h tmps _ g _ hq hg.set (by rw [List.size_toArray, cellsO_length])) rfl ⟨p, by rw [hr]; rfl, hp, below_setRowO hb hlt _⟩
theorem quoteH (w : World) : Calls Tryz.prog 67 #[.agg #[.string ⟨#[108, 105, 115, 112]⟩, .string ⟨#[113, 117, 111, 116, 101]⟩]] w (RetH w quoteO) :=
 (symP _ _ w (Has w)).mono fun _ _ h => h.h (In.has w)
/-- What quoted answers. -/
def qO (o : Ob) : Option Ob := match o.items with
 | some [i, x] => if i = quoteO then some x else none
 | _ => none
theorem qO_cons (a d : Ob) : qO (.cons a d) = if isQU a d = true then (match d with | .cons x _ => some x | _ => none) else none := by
 unfold qO
 cases d with
 | num q => simp [Ob.items, isQU, Ob.nil]
 | str s => simp [Ob.items, isQU, Ob.nil]
 | sym x y =>
  simp only [Ob.items, isQU]
  split <;> simp_all
 | cons x e =>
  cases e with
  | num q => simp [Ob.items, isQU, Ob.nil]
  | str s => simp [Ob.items, isQU, Ob.nil]
  | cons y z => cases hz : z.items <;> simp [Ob.items, isQU, hz, Ob.nil]
  | sym y z =>
   by_cases hn : Ob.sym y z = .nil
   · by_cases ha : a = quoteO
     · simp [Ob.items, isQU, hn, ha]
     · simp [Ob.items, isQU, hn, ha]
   · simp [Ob.items, isQU, hn]
theorem quotedN (o : Ob) (p : Value) (W0 w : World) (hz : Below W0.heap.size W0 w) (hp : Hd w o p) (ci : ∀ X, Below W0.heap.size W0 X → Hd X o p → Calls Tryz.prog 151 #[vO o p] X (RetIt X (Has W0) none)) :
 Calls Tryz.prog 110 #[vO o p] w (RetQU W0 w none) := by
 have CI := qh9 ci
 have HZ := qh9 hz
 clear ci hz
 obtain ⟨a0, a1, a2, a3, a4, a5, ea⟩ := cells7 (o) p
 have T := Bx2.new w #[a0, a1, a2, a3, a4, a5, p] #[.int .i64 0, .string ⟨#[]⟩, .string ⟨#[]⟩, .string ⟨#[]⟩, .string ⟨#[]⟩, .string ⟨#[]⟩, .slice none 0 0]
 rw [vO_cells ea]
 go_enter Tryz.func110, Tryz.ntmps110
 go_wp2_with fail
 generalize (w.alloc (.cells #[a0, a1, a2, a3, a4, a5, p] 39)).alloc (.cells #[.int .i64 0, .string ⟨#[]⟩, .string ⟨#[]⟩, .string ⟨#[]⟩, .string ⟨#[]⟩, .string ⟨#[]⟩, .slice none 0 0] 39) = W at T ⊢
 have B0 : Hid (Bx W (w.heap.size) (cellsO (o) p).toArray) := by rw [ea]; exact T.b0
 have K0 := qh9 (hp.below T.bel)
 have R0 := qh9 T.b1
 have HW := qh9 T.bel
 try rw [← vO_cells ea]
 clear T ea hp
 with_reducible refine (quoteH _).mono ?_
 rintro e w1 ⟨q0, rfl, k0, hb⟩
 replace B0 := qh9 (B0.out.keep hb)
 replace K0 := qh9 (K0.out.below hb)
 replace R0 := qh9 (R0.out.keep hb)
 replace HW := qc9 HW hb
 clear hb
 replace k0 := qh9 k0
 have T := qh9 (Bx1.new w1 #[.int .i64 0, .string ⟨#[]⟩, .string ⟨#[]⟩, .string ⟨#[]⟩, .string ⟨#[]⟩, .string ⟨#[]⟩, .slice none 0 0])
 go_wp2_with (first | ((with_reducible refine storeB (w1 := w1) (g := w1.heap.size) (b := quoteO) (p := q0) (.tmp 4) (.tmp 8) ?_ ?_ ?_ ?_ k0.out T.out.b0 ?_); rfl; rfl; rfl; rfl; have P := Pt1U.new (w := w1) (o := quoteO) (p := q0) (z := #[.int .i64 0, .string ⟨#[]⟩, .string ⟨#[]⟩, .string ⟨#[]⟩, .string ⟨#[]⟩, .string ⟨#[]⟩, .slice none 0 0]); generalize World.setRow (w1.alloc (.cells #[.int .i64 0, .string ⟨#[]⟩, .string ⟨#[]⟩, .string ⟨#[]⟩, .string ⟨#[]⟩, .string ⟨#[]⟩, .slice none 0 0] 39)) w1.heap.size (cellsO (quoteO) q0).toArray = X1 at P ⊢; have hb := P.bel; replace B0 := qh9 (B0.out.keep hb); replace K0 := qh9 (K0.out.below hb); replace R0 := qh9 (R0.out.keep hb); replace HW := qc9 HW hb; replace k0 := qh9 (k0.out.below hb); have D0 := qh9 P.b0; clear P hb T) | ((with_reducible refine loadB (.tmp 1) ?_ ?_ ?_ B0.out ?_); rfl; rfl; rfl) | ((with_reducible refine loadB (.tmp 4) ?_ ?_ ?_ D0.out ?_); rfl; rfl; rfl) | ((with_reducible refine loadG (.tmp 1) ?_ ?_ ?_ B0.out ?_); rfl; rfl; rfl) | ((with_reducible refine loadG (.tmp 4) ?_ ?_ ?_ D0.out ?_); rfl; rfl; rfl))
 with_reducible refine (CI.out _ (HZ.out.trans (HW.out.mono HZ.out.size)) K0.out).mono ?_
 rintro e w2 ⟨hb, rfl⟩
 replace B0 := qh9 (B0.out.keep hb)
 replace K0 := qh9 (K0.out.below hb)
 replace R0 := qh9 (R0.out.keep hb)
 replace HW := qc9 HW hb
 replace k0 := qh9 (k0.out.below hb)
 replace D0 := qh9 (D0.out.keep hb)
 clear hb CI
 go_upto_region 3 with fail
 first | (go_region_with (fail)) | fail
 all_goals
  have RD := qh9 (R0.out.keep (Below.drew (Below.refl _ _)))
  have HWD := qh9 (Below.drew HW.out)
  go_wp2_with ((with_reducible refine storeZU (g := w.heap.size + 1) (.tmp 2) (.tmp 29) ?_ ?_ ?_ ?_ RD.out ?_); rfl; rfl; rfl; rfl)
  exact retQNs rfl rfl rfl RD.out (by omega) HWD.out
theorem quotedL (o : Ob) (p : Value) (W0 w : World) (hz : Below W0.heap.size W0 w) (hp : Hd w o p) (l : List Ob) (hl : l.length ≠ 2) (ci : ∀ X, Below W0.heap.size W0 X → Hd X o p → Calls Tryz.prog 151 #[vO o p] X (RetIt X (Has W0) (some l))) :
 Calls Tryz.prog 110 #[vO o p] w (RetQU W0 w none) := by
 have CI := qh9 ci
 have HZ := qh9 hz
 clear ci hz
 obtain ⟨a0, a1, a2, a3, a4, a5, ea⟩ := cells7 (o) p
 have T := Bx2.new w #[a0, a1, a2, a3, a4, a5, p] #[.int .i64 0, .string ⟨#[]⟩, .string ⟨#[]⟩, .string ⟨#[]⟩, .string ⟨#[]⟩, .string ⟨#[]⟩, .slice none 0 0]
 rw [vO_cells ea]
 go_enter Tryz.func110, Tryz.ntmps110
 go_wp2_with fail
 generalize (w.alloc (.cells #[a0, a1, a2, a3, a4, a5, p] 39)).alloc (.cells #[.int .i64 0, .string ⟨#[]⟩, .string ⟨#[]⟩, .string ⟨#[]⟩, .string ⟨#[]⟩, .string ⟨#[]⟩, .slice none 0 0] 39) = W at T ⊢
 have B0 : Hid (Bx W (w.heap.size) (cellsO (o) p).toArray) := by rw [ea]; exact T.b0
 have K0 := qh9 (hp.below T.bel)
 have R0 := qh9 T.b1
 have HW := qh9 T.bel
 try rw [← vO_cells ea]
 clear T ea hp
 with_reducible refine (quoteH _).mono ?_
 rintro e w1 ⟨q0, rfl, k0, hb⟩
 replace B0 := qh9 (B0.out.keep hb)
 replace K0 := qh9 (K0.out.below hb)
 replace R0 := qh9 (R0.out.keep hb)
 replace HW := qc9 HW hb
 clear hb
 replace k0 := qh9 k0
 have T := qh9 (Bx1.new w1 #[.int .i64 0, .string ⟨#[]⟩, .string ⟨#[]⟩, .string ⟨#[]⟩, .string ⟨#[]⟩, .string ⟨#[]⟩, .slice none 0 0])
 go_wp2_with (first | ((with_reducible refine storeB (w1 := w1) (g := w1.heap.size) (b := quoteO) (p := q0) (.tmp 4) (.tmp 8) ?_ ?_ ?_ ?_ k0.out T.out.b0 ?_); rfl; rfl; rfl; rfl; have P := Pt1U.new (w := w1) (o := quoteO) (p := q0) (z := #[.int .i64 0, .string ⟨#[]⟩, .string ⟨#[]⟩, .string ⟨#[]⟩, .string ⟨#[]⟩, .string ⟨#[]⟩, .slice none 0 0]); generalize World.setRow (w1.alloc (.cells #[.int .i64 0, .string ⟨#[]⟩, .string ⟨#[]⟩, .string ⟨#[]⟩, .string ⟨#[]⟩, .string ⟨#[]⟩, .slice none 0 0] 39)) w1.heap.size (cellsO (quoteO) q0).toArray = X1 at P ⊢; have hb := P.bel; replace B0 := qh9 (B0.out.keep hb); replace K0 := qh9 (K0.out.below hb); replace R0 := qh9 (R0.out.keep hb); replace HW := qc9 HW hb; replace k0 := qh9 (k0.out.below hb); have D0 := qh9 P.b0; clear P hb T) | ((with_reducible refine loadB (.tmp 1) ?_ ?_ ?_ B0.out ?_); rfl; rfl; rfl) | ((with_reducible refine loadB (.tmp 4) ?_ ?_ ?_ D0.out ?_); rfl; rfl; rfl) | ((with_reducible refine loadG (.tmp 1) ?_ ?_ ?_ B0.out ?_); rfl; rfl; rfl) | ((with_reducible refine loadG (.tmp 4) ?_ ?_ ?_ D0.out ?_); rfl; rfl; rfl))
 with_reducible refine (CI.out _ (HZ.out.trans (HW.out.mono HZ.out.size)) K0.out).mono ?_
 rintro e w2 ⟨hb, g, rfl, _, hg1, hg2⟩
 replace B0 := qh9 (B0.out.keep hb)
 replace K0 := qh9 (K0.out.below hb)
 replace R0 := qh9 (R0.out.keep hb)
 replace HW := qc9 HW hb
 replace k0 := qh9 (k0.out.below hb)
 replace D0 := qh9 (D0.out.keep hb)
 clear hb CI hg1 hg2
 obtain ⟨n, hn⟩ : ∃ n, l.length = n := ⟨_, rfl⟩
 rw [hn] at hl ⊢
 clear hn
 have hl2 : ¬ (n : Int) = 2 := by omega
 have hl3 : ((n : Int) != 2) = true := by simp; omega
 have hl5 : decide ((n : Int) = 2) = false := by simp; omega
 clear hl
 go_upto_region 3 with fail
 go_quiet (fail)
 all_goals
  have RD := qh9 (R0.out.keep (belDN _ nq))
  have HWD := qh9 (chain2 HW.out (belDN _ nq) (Nat.le_refl _))
  go_wp2_with ((with_reducible refine storeZU (g := w.heap.size + 1) (.tmp 2) (.tmp 29) ?_ ?_ ?_ ?_ RD.out ?_); rfl; rfl; rfl; rfl)
  exact retQNs rfl rfl rfl RD.out (by omega) HWD.out
section
variable {Q : Exit → Act → World → Prop}
end
section
variable {Q : Exit → Act → World → Prop}
end
section
variable {P : Program} {Q : Exit → Act → World → Prop} {ops : Array Oper} {K : Act → World → Prop} {a : Act} {w : World} {i : Nat} {o : Oper}
theorem wanted_g {og : Oper} {g : Nat} {b v : Bool} {s : Tmp} (hg : o.guard = some (g, b)) (ho : ops[g]? = some og) (hd : og.dst = some s) (hs : a.tmps[s]? = some (.bool v)) : Region.wanted o (yielded ops a.tmps) = (v == b) := by
 simp [Region.wanted, hg, yielded, ho, hd, hs]
theorem wanted_on {og : Oper} {g : Nat} {b v : Bool} {s : Tmp} (hg : o.guard = some (g, b)) (ho : ops[g]? = some og) (hd : og.dst = some s) (hs : a.tmps[s]? = some (.bool v)) (e : (v == b) = true) : Region.wanted o (yielded ops a.tmps) = true := (wanted_g hg ho hd hs).trans e
theorem gw_t (ho : ops[i]? = some o) (hw : Region.wanted o (yielded ops a.tmps) = true) (f : FuncId) (s0 : Tmp) (v0 : Value) (ts : Array TypeId) (hop : o.op = Op.call { callee := Callee.value (Operand.func f), args := #[.tmp s0], argTypes := ts }) (hf : ∀ (v0 : Value) (w : World), (callFunc f #[v0]).run P w = .ok (.enter f #[v0]) w)
 (h0 : a.tmps[s0]? = some v0)
 (hc : Calls P f #[v0] w fun e w' => ∃ r, e = .returned r ∧ K (a.put o.dst r) w') : wpOp P ops Q i K a w :=
 wpOp_step ho fun K' hK' => by
  rw [if_pos hw]
  unfold Oper.wp
  simp only [execOp, hop]
  go_simp
  refine hc.mono ?_
  rintro e w' ⟨r, rfl, h⟩
  exact hK' _ _ h
theorem gw_c (ho : ops[i]? = some o) (hw : Region.wanted o (yielded ops a.tmps) = true) (f : FuncId)  (v0 : Value) (ts : Array TypeId) (hop : o.op = Op.call { callee := Callee.value (Operand.func f), args := #[.const v0], argTypes := ts }) (hf : ∀ (v0 : Value) (w : World), (callFunc f #[v0]).run P w = .ok (.enter f #[v0]) w)

 (hc : Calls P f #[v0] w fun e w' => ∃ r, e = .returned r ∧ K (a.put o.dst r) w') : wpOp P ops Q i K a w :=
 wpOp_step ho fun K' hK' => by
  rw [if_pos hw]
  unfold Oper.wp
  simp only [execOp, hop]
  go_simp
  refine hc.mono ?_
  rintro e w' ⟨r, rfl, h⟩
  exact hK' _ _ h
theorem gw_tt (ho : ops[i]? = some o) (hw : Region.wanted o (yielded ops a.tmps) = true) (f : FuncId) (s0 : Tmp) (s1 : Tmp) (v0 v1 : Value) (ts : Array TypeId) (hop : o.op = Op.call { callee := Callee.value (Operand.func f), args := #[.tmp s0, .tmp s1], argTypes := ts }) (hf : ∀ (v0 v1 : Value) (w : World), (callFunc f #[v0, v1]).run P w = .ok (.enter f #[v0, v1]) w)
 (h0 : a.tmps[s0]? = some v0) (h1 : a.tmps[s1]? = some v1)
 (hc : Calls P f #[v0, v1] w fun e w' => ∃ r, e = .returned r ∧ K (a.put o.dst r) w') : wpOp P ops Q i K a w :=
 wpOp_step ho fun K' hK' => by
  rw [if_pos hw]
  unfold Oper.wp
  simp only [execOp, hop]
  go_simp
  refine hc.mono ?_
  rintro e w' ⟨r, rfl, h⟩
  exact hK' _ _ h
theorem gw_move (ho : ops[i]? = some o) (hw : Region.wanted o (yielded ops a.tmps) = true) (s : Tmp) (v : Value) (hop : o.op = Op.move (.tmp s)) (hx : a.tmps[s]? = some v) (hK : K (a.put o.dst v) w) : wpOp P ops Q i K a w :=
 wpOp_step ho fun K' hK' => by
  rw [if_pos hw]
  unfold Oper.wp
  simp only [execOp, hop]
  go_simp
  exact hK' _ _ hK
theorem gw_not (ho : ops[i]? = some o) (hw : Region.wanted o (yielded ops a.tmps) = true) (s : Tmp) (b : Bool) (t : TypeId) (hop : o.op = Op.unOp UnOp.not t (.tmp s)) (hx : a.tmps[s]? = some (.bool b)) (hK : K (a.put o.dst (.bool !b)) w) : wpOp P ops Q i K a w :=
 wpOp_step ho fun K' hK' => by
  rw [if_pos hw]
  unfold Oper.wp
  simp only [execOp, hop]
  go_simp
  exact hK' _ _ hK
theorem gw_load (ho : ops[i]? = some o) (hw : Region.wanted o (yielded ops a.tmps) = true) (ty : TypeId) (x : Operand) (hop : o.op = .load ty x) (g : Nat) (hx : a.eval x = .pointer (some ⟨g, 0, none⟩)) (cs : Array Value) (t : TypeId) (fr : Nat × Nat) (d : TypeDesc) (hc : w.heap[g]? = some (.cells cs t fr))
 (hu : P.underlying ty = some d) (hd : (match d with | .struct _ | .array _ _ => true | _ => false) = true) (hi : (P.info? ty).map (·.size) = some cs.size) (hK : K (a.put o.dst (.agg cs)) w) : wpOp P ops Q i K a w :=
 wpOp_step ho fun K' hK' => by
  rw [if_pos hw]
  exact wp_load_row ty x hop g hx t cs fr d hc hu hd hi (hK' _ _ hK)
end
theorem gw_box {Q : Exit → Act → World → Prop} {ops : Array Oper} {K : Act → World → Prop} {a : Act} {w : World} {i : Nat} {o : Oper} (ho : ops[i]? = some o) (hw : Region.wanted o (yielded ops a.tmps) = true) (x : Operand) (hop : o.op = .load 39 x) {g : Nat} {b : Ob} {p : Value} (hx : a.eval x = .pointer (some ⟨g, 0, none⟩)) (hb : Bx w g (cellsO b p).toArray)
 (hK : K (a.put o.dst (vO b p)) w) : wpOp Tryz.prog ops Q i K a w :=
 gw_load ho hw 39 x hop g hx _ _ _ _ hb Tryz.underlying39 rfl (by rw [List.size_toArray, cellsO_length]; kernel_rfl) hK
/-- The object o lies at ⟨g, k⟩, cell by cell. -/
structure CAt (w : World) (o : Ob) (g k : Nat) (p : Value) : Prop where
 lt : g < w.heap.size
 cell : ∀ j u, (cellsO o p)[j]? = some u → w.cell? ⟨g, k + j, none⟩ = some u
theorem CAt.below {w w' : World} {o : Ob} {g k : Nat} {p : Value} (h : CAt w o g k p) (hb : Below w.heap.size w w') : CAt w' o g k p :=
 ⟨Nat.lt_of_lt_of_le h.lt hb.size, fun j u hj => (hb.cell (p := ⟨g, k + j, none⟩) h.lt).trans (h.cell j u hj)⟩
theorem loadCU {ops : Array Oper} {rest : List Oper} {o : Oper} {a : Act} {w : World} {Q : Exit → Act → World → Prop} {g k : Nat} {b : Ob} {p : Value} (ho : ∃ x, o.op = .load 39 x ∧ a.eval x = .pointer (some ⟨g, k, none⟩)) (hgd : o.guard = none)
 (hb : CAt w b g k p)
 (h : wpList Tryz.prog ops Q rest (a.put o.dst (vO b p)) w) : wpList Tryz.prog ops Q (o :: rest) a w := by
 obtain ⟨x, ho, hx⟩ := ho
 exact wpList_load_mid hgd 39 x ho g k hx (cellsO b p) _ hb.cell Tryz.underlying39 rfl (by rw [cellsO_length]; kernel_rfl) h
section
variable {Q : Exit → Act → World → Prop} {ops : Array Oper} {K : Act → World → Prop} {a : Act} {w : World} {i : Nat} {o : Oper}
theorem gw_idxU (ho : ops[i]? = some o) (hw : Region.wanted o (yielded ops a.tmps) = true) (s : Tmp) (b off c : Nat) (hop : o.op = Op.indexAddr 37 (.tmp s) (.const (.int .i64 0))) (hx : a.tmps[s]? = some (.slice (some ⟨b, off, none⟩) 2 c)) (hK : K (a.put o.dst (.pointer (some ⟨b, off, none⟩))) w) : wpOp Tryz.prog ops Q i K a w :=
 wpOp_step ho fun K' hK' => by
  rw [if_pos hw]
  unfold Oper.wp
  simp only [execOp, hop]
  go_simp
  exact hK' _ _ hK
theorem gw_neqU (ho : ops[i]? = some o) (hw : Region.wanted o (yielded ops a.tmps) = true) (s : Tmp) (n : Int) (hop : o.op = Op.binOp BinOp.neq 3 (.tmp s) (.const (.int .i64 2)) 3) (hx : a.tmps[s]? = some (.int .i64 n)) (hK : K (a.put o.dst (.bool (n != 2))) w) : wpOp Tryz.prog ops Q i K a w :=
 wpOp_step ho fun K' hK' => by
  rw [if_pos hw]
  unfold Oper.wp
  simp only [execOp, hop]
  go_simp
  exact hK' _ _ hK
theorem gw_ldU (ho : ops[i]? = some o) (hw : Region.wanted o (yielded ops a.tmps) = true) (s : Tmp) {g k : Nat} {b : Ob} {p : Value} (hop : o.op = .load 39 (.tmp s)) (hx : a.tmps[s]? = some (.pointer (some ⟨g, k, none⟩))) (hb : CAt w b g k p)
 (hK : K (a.put o.dst (vO b p)) w) : wpOp Tryz.prog ops Q i K a w :=
 wpOp_step ho fun K' hK' => by
  rw [if_pos hw]
  exact wp_load_mid 39 (.tmp s) hop g k (eval_of hx) (cellsO b p) _ hb.cell Tryz.underlying39 rfl (by rw [cellsO_length]; kernel_rfl) (hK' _ _ hK)
theorem gw_lenU (ho : ops[i]? = some o) (hw : Region.wanted o (yielded ops a.tmps) = true) (s : Tmp) (A : Option Addr) (n c : Nat) (hop : o.op = Op.call { callee := .builtin .len, args := #[.tmp s], argTypes := #[37] }) (hx : a.tmps[s]? = some (.slice A n c)) (hK : K (a.put o.dst (.int .i64 (n : Int))) w) : wpOp Tryz.prog ops Q i K a w :=
 wpOp_step ho fun K' hK' => by
  rw [if_pos hw]
  unfold Oper.wp
  simp only [execOp, hop]
  go_simp
  exact hK' _ _ hK
theorem gw_pickU (ho : ops[i]? = some o) (hw : Region.wanted o (yielded ops a.tmps) = true) (s t : Tmp) (x : Operand) (v : Value) (hop : o.op = Op.pick (.tmp s) x (.tmp t)) (hx : a.tmps[s]? = some (.bool false)) (hy : a.tmps[t]? = some v) (hK : K (a.put o.dst v) w) : wpOp Tryz.prog ops Q i K a w :=
 wpOp_step ho fun K' hK' => by
  rw [if_pos hw]
  unfold Oper.wp
  simp only [execOp, hop]
  go_simp
  exact hK' _ _ hK
end
theorem quotedF (o : Ob) (p : Value) (W0 w : World) (hz : Below W0.heap.size W0 w) (hp : Hd w o p) (oi ox : Ob) (ci : ∀ X, Below W0.heap.size W0 X → Hd X o p → Calls Tryz.prog 151 #[vO o p] X (RetIt X (Has W0) (some [oi, ox])))
 (ce : ∀ X p q, Hd X oi p → Hd X quoteO q → Calls Tryz.prog 152 #[vO oi p, vO quoteO q] X (RetB X false)) :
 Calls Tryz.prog 110 #[vO o p] w (RetQU W0 w none) := by
 have CI := qh9 ci
 have HZ := qh9 hz
 clear ci hz
 obtain ⟨a0, a1, a2, a3, a4, a5, ea⟩ := cells7 (o) p
 have T := Bx2.new w #[a0, a1, a2, a3, a4, a5, p] #[.int .i64 0, .string ⟨#[]⟩, .string ⟨#[]⟩, .string ⟨#[]⟩, .string ⟨#[]⟩, .string ⟨#[]⟩, .slice none 0 0]
 rw [vO_cells ea]
 go_enter Tryz.func110, Tryz.ntmps110
 go_wp2_with fail
 generalize (w.alloc (.cells #[a0, a1, a2, a3, a4, a5, p] 39)).alloc (.cells #[.int .i64 0, .string ⟨#[]⟩, .string ⟨#[]⟩, .string ⟨#[]⟩, .string ⟨#[]⟩, .string ⟨#[]⟩, .slice none 0 0] 39) = W at T ⊢
 have B0 : Hid (Bx W (w.heap.size) (cellsO (o) p).toArray) := by rw [ea]; exact T.b0
 have K0 := qh9 (hp.below T.bel)
 have R0 := qh9 T.b1
 have HW := qh9 T.bel
 try rw [← vO_cells ea]
 clear T ea hp
 with_reducible refine (quoteH _).mono ?_
 rintro e w1 ⟨q0, rfl, k0, hb⟩
 replace B0 := qh9 (B0.out.keep hb)
 replace K0 := qh9 (K0.out.below hb)
 replace R0 := qh9 (R0.out.keep hb)
 replace HW := qc9 HW hb
 clear hb
 replace k0 := qh9 k0
 have T := qh9 (Bx1.new w1 #[.int .i64 0, .string ⟨#[]⟩, .string ⟨#[]⟩, .string ⟨#[]⟩, .string ⟨#[]⟩, .string ⟨#[]⟩, .slice none 0 0])
 go_wp2_with (first | ((with_reducible refine storeB (w1 := w1) (g := w1.heap.size) (b := quoteO) (p := q0) (.tmp 4) (.tmp 8) ?_ ?_ ?_ ?_ k0.out T.out.b0 ?_); rfl; rfl; rfl; rfl; have P := Pt1U.new (w := w1) (o := quoteO) (p := q0) (z := #[.int .i64 0, .string ⟨#[]⟩, .string ⟨#[]⟩, .string ⟨#[]⟩, .string ⟨#[]⟩, .string ⟨#[]⟩, .slice none 0 0]); generalize World.setRow (w1.alloc (.cells #[.int .i64 0, .string ⟨#[]⟩, .string ⟨#[]⟩, .string ⟨#[]⟩, .string ⟨#[]⟩, .string ⟨#[]⟩, .slice none 0 0] 39)) w1.heap.size (cellsO (quoteO) q0).toArray = X1 at P ⊢; have hb := P.bel; replace B0 := qh9 (B0.out.keep hb); replace K0 := qh9 (K0.out.below hb); replace R0 := qh9 (R0.out.keep hb); replace HW := qc9 HW hb; replace k0 := qh9 (k0.out.below hb); have D0 := qh9 P.b0; clear P hb T) | ((with_reducible refine loadB (.tmp 1) ?_ ?_ ?_ B0.out ?_); rfl; rfl; rfl) | ((with_reducible refine loadB (.tmp 4) ?_ ?_ ?_ D0.out ?_); rfl; rfl; rfl) | ((with_reducible refine loadG (.tmp 1) ?_ ?_ ?_ B0.out ?_); rfl; rfl; rfl) | ((with_reducible refine loadG (.tmp 4) ?_ ?_ ?_ D0.out ?_); rfl; rfl; rfl))
 with_reducible refine (CI.out _ (HZ.out.trans (HW.out.mono HZ.out.size)) K0.out).mono ?_
 rintro e w2 ⟨hb, g, rfl, hat, hg1, hg2⟩
 have hZ2 := (HZ.out.trans (HW.out.mono HZ.out.size)).trans (hb.mono (Nat.le_trans HZ.out.size HW.out.size))
 unfold ObsAt at hat
 obtain ⟨⟨pi, hpi, hci⟩, hat⟩ := hat
 unfold ObsAt at hat
 obtain ⟨⟨px, hpx, hcx⟩, _⟩ := hat
 have KI := qh9 (hpi.hd (fun b h => Nat.lt_of_lt_of_le h hZ2.size))
 have KX : Hid (Hd W0 ox px) := hpx.keep (fun b h => h) (fun b h => (hZ2.block b h).symm)
 replace B0 := qh9 (B0.out.keep hb)
 replace K0 := qh9 (K0.out.below hb)
 replace R0 := qh9 (R0.out.keep hb)
 replace HW := qc9 HW hb
 replace k0 := qh9 (k0.out.below hb)
 replace D0 := qh9 (D0.out.keep hb)
 have HI : Hid (CAt w2 oi g 0 pi) := ⟨hg2, hci⟩
 have HX : Hid (CAt w2 ox g (0 + 7) px) := ⟨hg2, hcx⟩
 have CE := qh9 ce
 clear hb CI hg1 hZ2 hpi hpx hci hcx hg2 ce
 have e2 : [oi, ox].length = 2 := rfl
 rw [e2]
 clear e2
 go_upto_region 3 with fail
 go_wp2_with fail
 refine wp_region_grow (l := _) 14 (by kernel_rfl) (by kernel_rfl) (fun i => [14, 15, 16, 17, 18, 19, 20, 21, 22, 23, 24, 25, 26, 27].getD i 0) (LR [LV (.bool true), LV (.bool false), LV (.bool false), LV (.slice (some ⟨g, 0, none⟩) 2 2), LV (.int .i64 2), LV (.bool false), LV (.bool false), LV (.bool false), LV (.slice (some ⟨g, 0, none⟩) 2 2), LV (.pointer (some ⟨g, 0, none⟩)), LV (vO (oi) pi), LV (vO (quoteO) q0), LV (.bool false), LV (.bool true)]) (LR_mono (l := [LV (.bool true), LV (.bool false), LV (.bool false), LV (.slice (some ⟨g, 0, none⟩) 2 2), LV (.int .i64 2), LV (.bool false), LV (.bool false), LV (.bool false), LV (.slice (some ⟨g, 0, none⟩) 2 2), LV (.pointer (some ⟨g, 0, none⟩)), LV (vO (oi) pi), LV (vO (quoteO) q0), LV (.bool false), LV (.bool true)]) ⟨mLV _, mLV _, mLV _, mLV _, mLV _, mLV _, mLV _, mLV _, mLV _, mLV _, mLV _, mLV _, mLV _, mLV _, trivial⟩) (by
  intro i j hi hj h
  exact inj_getD [14, 15, 16, 17, 18, 19, 20, 21, 22, 23, 24, 25, 26, 27] (by decide) i j hi hj h) (by
  intro i hi
  exact lt_getD 33 [14, 15, 16, 17, 18, 19, 20, 21, 22, 23, 24, 25, 26, 27] (by decide) i hi) ?step ?done
 case step =>
  intro i hi a w9 v lo hi' hoth hb hw
  have sl6 : a.tmps[6]? = some (.bool true) := (hoth 6 (fun j hj => by
   have := ne_getD 6 [14, 15, 16, 17, 18, 19, 20, 21, 22, 23, 24, 25, 26, 27] (by decide) j hj
   exact this)).trans rfl
  have sl5 : a.tmps[5]? = some (.slice (some ⟨g, 0, none⟩) 2 2) := (hoth 5 (fun j hj => by
   have := ne_getD 5 [14, 15, 16, 17, 18, 19, 20, 21, 22, 23, 24, 25, 26, 27] (by decide) j hj
   exact this)).trans rfl
  have sl4 : a.tmps[4]? = some (.pointer (some ⟨w1.heap.size, 0, none⟩)) := (hoth 4 (fun j hj => by
   have := ne_getD 4 [14, 15, 16, 17, 18, 19, 20, 21, 22, 23, 24, 25, 26, 27] (by decide) j hj
   exact this)).trans rfl
  match i, hi with
  | 0, _ =>
   exact gw_move rfl (wanted_plain rfl) 6 _ rfl sl6 ⟨_, rfl, Below.refl _ _, rfl⟩
  | 1, _ =>
   obtain ⟨s0, r0, _⟩ := hw 0 (by omega) (by kernel_rfl)
   have e0 : v 0 = .bool true := r0
   rw [e0] at s0
   exact gw_not rfl (wanted_plain rfl) 14 _ _ rfl s0 ⟨_, rfl, Below.refl _ _, rfl⟩
  | 2, _ =>
   obtain ⟨s0, r0, _⟩ := hw 1 (by omega) (by kernel_rfl)
   have e0 : v 1 = .bool false := r0
   rw [e0] at s0
   exact gw_move rfl (wanted_plain rfl) 15 _ rfl s0 ⟨_, rfl, Below.refl _ _, rfl⟩
  | 3, _ =>
   obtain ⟨s9, r9, _⟩ := hw 2 (by omega) (by kernel_rfl)
   have e9 : v 2 = .bool false := r9
   rw [e9] at s9
   exact gw_move rfl (wanted_on rfl rfl rfl s9 rfl) 5 _ rfl sl5 ⟨_, rfl, Below.refl _ _, rfl⟩
  | 4, _ =>
   obtain ⟨s9, r9, _⟩ := hw 2 (by omega) (by kernel_rfl)
   have e9 : v 2 = .bool false := r9
   rw [e9] at s9
   obtain ⟨s0, r0, _⟩ := hw 3 (by omega) (by kernel_rfl)
   have e0 : v 3 = .slice (some ⟨g, 0, none⟩) 2 2 := r0
   rw [e0] at s0
   exact gw_lenU rfl (wanted_on rfl rfl rfl s9 rfl) 17 _ _ _ rfl s0 ⟨_, rfl, Below.refl _ _, rfl⟩
  | 5, _ =>
   obtain ⟨s9, r9, _⟩ := hw 2 (by omega) (by kernel_rfl)
   have e9 : v 2 = .bool false := r9
   rw [e9] at s9
   obtain ⟨s0, r0, _⟩ := hw 4 (by omega) (by kernel_rfl)
   have e0 : v 4 = .int .i64 2 := r0
   rw [e0] at s0
   exact gw_neqU rfl (wanted_on rfl rfl rfl s9 rfl) 18 _ rfl s0 ⟨_, rfl, Below.refl _ _, rfl⟩
  | 6, _ =>
   obtain ⟨s0, r0, _⟩ := hw 2 (by omega) (by kernel_rfl)
   have e0 : v 2 = .bool false := r0
   rw [e0] at s0
   obtain ⟨s1, r1, _⟩ := hw 5 (by omega) (by kernel_rfl)
   have e1 : v 5 = .bool false := r1
   rw [e1] at s1
   exact gw_pickU rfl (wanted_plain rfl) 16 19 _ _ rfl s0 s1 ⟨_, rfl, Below.refl _ _, rfl⟩
  | 7, _ =>
   obtain ⟨s0, r0, _⟩ := hw 6 (by omega) (by kernel_rfl)
   have e0 : v 6 = .bool false := r0
   rw [e0] at s0
   exact gw_move rfl (wanted_plain rfl) 20 _ rfl s0 ⟨_, rfl, Below.refl _ _, rfl⟩
  | 8, _ =>
   obtain ⟨s9, r9, _⟩ := hw 7 (by omega) (by kernel_rfl)
   have e9 : v 7 = .bool false := r9
   rw [e9] at s9
   exact gw_move rfl (wanted_on rfl rfl rfl s9 rfl) 5 _ rfl sl5 ⟨_, rfl, Below.refl _ _, rfl⟩
  | 9, _ =>
   obtain ⟨s9, r9, _⟩ := hw 7 (by omega) (by kernel_rfl)
   have e9 : v 7 = .bool false := r9
   rw [e9] at s9
   obtain ⟨s0, r0, _⟩ := hw 8 (by omega) (by kernel_rfl)
   have e0 : v 8 = .slice (some ⟨g, 0, none⟩) 2 2 := r0
   rw [e0] at s0
   exact gw_idxU rfl (wanted_on rfl rfl rfl s9 rfl) 22 _ _ _ rfl s0 ⟨_, rfl, Below.refl _ _, rfl⟩
  | 10, _ =>
   obtain ⟨s9, r9, _⟩ := hw 7 (by omega) (by kernel_rfl)
   have e9 : v 7 = .bool false := r9
   rw [e9] at s9
   obtain ⟨s0, r0, _⟩ := hw 9 (by omega) (by kernel_rfl)
   have e0 : v 9 = .pointer (some ⟨g, 0, none⟩) := r0
   rw [e0] at s0
   exact gw_ldU rfl (wanted_on rfl rfl rfl s9 rfl) 23 rfl s0 (HI.out.below hb) ⟨_, rfl, Below.refl _ _, rfl⟩
  | 11, _ =>
   obtain ⟨s9, r9, _⟩ := hw 7 (by omega) (by kernel_rfl)
   have e9 : v 7 = .bool false := r9
   rw [e9] at s9
   exact gw_box rfl (wanted_on rfl rfl rfl s9 rfl) (.tmp 4) rfl (eval_of sl4) (D0.out.keep hb) ⟨_, rfl, Below.refl _ _, rfl⟩
  | 12, _ =>
   obtain ⟨s9, r9, _⟩ := hw 7 (by omega) (by kernel_rfl)
   have e9 : v 7 = .bool false := r9
   rw [e9] at s9
   obtain ⟨s0, r0, _⟩ := hw 10 (by omega) (by kernel_rfl)
   have e0 : v 10 = vO (oi) pi := r0
   rw [e0] at s0
   obtain ⟨s1, r1, _⟩ := hw 11 (by omega) (by kernel_rfl)
   have e1 : v 11 = vO (quoteO) q0 := r1
   rw [e1] at s1
   refine gw_tt rfl (wanted_on rfl rfl rfl s9 rfl) 152 24 25 _ _ _ rfl (fun v u w => by go_simp) s0 s1 ?_
   with_reducible refine (CE.out w9 pi q0 (KI.out.below hb) (k0.out.below hb)).mono ?_
   rintro e w3 ⟨rfl, hb3⟩
   exact ⟨_, rfl, _, rfl, hb3, rfl⟩
  | 13, _ =>
   obtain ⟨s9, r9, _⟩ := hw 7 (by omega) (by kernel_rfl)
   have e9 : v 7 = .bool false := r9
   rw [e9] at s9
   obtain ⟨s0, r0, _⟩ := hw 12 (by omega) (by kernel_rfl)
   have e0 : v 12 = .bool false := r0
   rw [e0] at s0
   exact gw_not rfl (wanted_on rfl rfl rfl s9 rfl) 26 _ _ rfl s0 ⟨_, rfl, Below.refl _ _, rfl⟩
  | k + 14, h => exact absurd h (by omega)
 case done =>
  intro a w9 v lo hi' hdef hsz hoth hb hj hap
  obtain ⟨_, hv7, _, _⟩ := hj 7 (by omega)
  obtain ⟨_, hv13, _, _⟩ := hj 13 (by omega)
  have ha := eq_puts hdef hsz hoth (fun i hi => (hj i hi).1)
  subst ha
  clear hj hoth hdef hsz hap
  change v 7 = _ at hv7
  change v 13 = _ at hv13
  simp only [puts, List.getD_cons_zero, List.getD_cons_succ, hv7, hv13]
  generalize v 0 = v0
  generalize v 1 = v1
  generalize v 2 = v2
  generalize v 3 = v3
  generalize v 4 = v4
  generalize v 5 = v5
  generalize v 6 = v6
  generalize v 8 = v8
  generalize v 9 = v9
  generalize v 10 = v10
  generalize v 11 = v11
  generalize v 12 = v12
  clear hv7 hv13
  simp only [Act.put, List.setIfInBounds_toArray, List.set_cons_zero, List.set_cons_succ]
  show wpList _ _ _ [_] _ _
  replace B0 := qh9 (B0.out.keep hb)
  replace K0 := qh9 (K0.out.below hb)
  replace R0 := qh9 (R0.out.keep hb)
  replace HW := qc9 HW hb
  replace k0 := qh9 (k0.out.below hb)
  replace D0 := qh9 (D0.out.keep hb)
  replace KI := qh9 (KI.out.below hb)
  replace HI := qh9 (HI.out.below hb)
  replace HX := qh9 (HX.out.below hb)
  clear hb
  go_wp2_with ((with_reducible refine storeZU (g := w.heap.size + 1) (.tmp 2) (.tmp 29) ?_ ?_ ?_ ?_ R0.out ?_); rfl; rfl; rfl; rfl)
  exact retQNs rfl rfl rfl R0.out (by omega) HW.out
theorem quotedT (o : Ob) (p : Value) (W0 w : World) (hz : Below W0.heap.size W0 w) (hp : Hd w o p) (oi ox : Ob) (ci : ∀ X, Below W0.heap.size W0 X → Hd X o p → Calls Tryz.prog 151 #[vO o p] X (RetIt X (Has W0) (some [oi, ox])))
 (ce : ∀ X p q, Hd X oi p → Hd X quoteO q → Calls Tryz.prog 152 #[vO oi p, vO quoteO q] X (RetB X true)) :
 Calls Tryz.prog 110 #[vO o p] w (RetQU W0 w (some ox)) := by
 have CI := qh9 ci
 have HZ := qh9 hz
 clear ci hz
 obtain ⟨a0, a1, a2, a3, a4, a5, ea⟩ := cells7 (o) p
 have T := Bx2.new w #[a0, a1, a2, a3, a4, a5, p] #[.int .i64 0, .string ⟨#[]⟩, .string ⟨#[]⟩, .string ⟨#[]⟩, .string ⟨#[]⟩, .string ⟨#[]⟩, .slice none 0 0]
 rw [vO_cells ea]
 go_enter Tryz.func110, Tryz.ntmps110
 go_wp2_with fail
 generalize (w.alloc (.cells #[a0, a1, a2, a3, a4, a5, p] 39)).alloc (.cells #[.int .i64 0, .string ⟨#[]⟩, .string ⟨#[]⟩, .string ⟨#[]⟩, .string ⟨#[]⟩, .string ⟨#[]⟩, .slice none 0 0] 39) = W at T ⊢
 have B0 : Hid (Bx W (w.heap.size) (cellsO (o) p).toArray) := by rw [ea]; exact T.b0
 have K0 := qh9 (hp.below T.bel)
 have R0 := qh9 T.b1
 have HW := qh9 T.bel
 try rw [← vO_cells ea]
 clear T ea hp
 with_reducible refine (quoteH _).mono ?_
 rintro e w1 ⟨q0, rfl, k0, hb⟩
 replace B0 := qh9 (B0.out.keep hb)
 replace K0 := qh9 (K0.out.below hb)
 replace R0 := qh9 (R0.out.keep hb)
 replace HW := qc9 HW hb
 clear hb
 replace k0 := qh9 k0
 have T := qh9 (Bx1.new w1 #[.int .i64 0, .string ⟨#[]⟩, .string ⟨#[]⟩, .string ⟨#[]⟩, .string ⟨#[]⟩, .string ⟨#[]⟩, .slice none 0 0])
 go_wp2_with (first | ((with_reducible refine storeB (w1 := w1) (g := w1.heap.size) (b := quoteO) (p := q0) (.tmp 4) (.tmp 8) ?_ ?_ ?_ ?_ k0.out T.out.b0 ?_); rfl; rfl; rfl; rfl; have P := Pt1U.new (w := w1) (o := quoteO) (p := q0) (z := #[.int .i64 0, .string ⟨#[]⟩, .string ⟨#[]⟩, .string ⟨#[]⟩, .string ⟨#[]⟩, .string ⟨#[]⟩, .slice none 0 0]); generalize World.setRow (w1.alloc (.cells #[.int .i64 0, .string ⟨#[]⟩, .string ⟨#[]⟩, .string ⟨#[]⟩, .string ⟨#[]⟩, .string ⟨#[]⟩, .slice none 0 0] 39)) w1.heap.size (cellsO (quoteO) q0).toArray = X1 at P ⊢; have hb := P.bel; replace B0 := qh9 (B0.out.keep hb); replace K0 := qh9 (K0.out.below hb); replace R0 := qh9 (R0.out.keep hb); replace HW := qc9 HW hb; replace k0 := qh9 (k0.out.below hb); have D0 := qh9 P.b0; clear P hb T) | ((with_reducible refine loadB (.tmp 1) ?_ ?_ ?_ B0.out ?_); rfl; rfl; rfl) | ((with_reducible refine loadB (.tmp 4) ?_ ?_ ?_ D0.out ?_); rfl; rfl; rfl) | ((with_reducible refine loadG (.tmp 1) ?_ ?_ ?_ B0.out ?_); rfl; rfl; rfl) | ((with_reducible refine loadG (.tmp 4) ?_ ?_ ?_ D0.out ?_); rfl; rfl; rfl))
 with_reducible refine (CI.out _ (HZ.out.trans (HW.out.mono HZ.out.size)) K0.out).mono ?_
 rintro e w2 ⟨hb, g, rfl, hat, hg1, hg2⟩
 have hZ2 := (HZ.out.trans (HW.out.mono HZ.out.size)).trans (hb.mono (Nat.le_trans HZ.out.size HW.out.size))
 unfold ObsAt at hat
 obtain ⟨⟨pi, hpi, hci⟩, hat⟩ := hat
 unfold ObsAt at hat
 obtain ⟨⟨px, hpx, hcx⟩, _⟩ := hat
 have KI := qh9 (hpi.hd (fun b h => Nat.lt_of_lt_of_le h hZ2.size))
 have KX : Hid (Hd W0 ox px) := hpx.keep (fun b h => h) (fun b h => (hZ2.block b h).symm)
 replace B0 := qh9 (B0.out.keep hb)
 replace K0 := qh9 (K0.out.below hb)
 replace R0 := qh9 (R0.out.keep hb)
 replace HW := qc9 HW hb
 replace k0 := qh9 (k0.out.below hb)
 replace D0 := qh9 (D0.out.keep hb)
 have HI : Hid (CAt w2 oi g 0 pi) := ⟨hg2, hci⟩
 have HX : Hid (CAt w2 ox g (0 + 7) px) := ⟨hg2, hcx⟩
 have CE := qh9 ce
 clear hb CI hg1 hZ2 hpi hpx hci hcx hg2 ce
 have e2 : [oi, ox].length = 2 := rfl
 rw [e2]
 clear e2
 go_upto_region 3 with fail
 go_wp2_with fail
 refine wp_region_grow (l := _) 14 (by kernel_rfl) (by kernel_rfl) (fun i => [14, 15, 16, 17, 18, 19, 20, 21, 22, 23, 24, 25, 26, 27].getD i 0) (LR [LV (.bool true), LV (.bool false), LV (.bool false), LV (.slice (some ⟨g, 0, none⟩) 2 2), LV (.int .i64 2), LV (.bool false), LV (.bool false), LV (.bool false), LV (.slice (some ⟨g, 0, none⟩) 2 2), LV (.pointer (some ⟨g, 0, none⟩)), LV (vO (oi) pi), LV (vO (quoteO) q0), LV (.bool true), LV (.bool false)]) (LR_mono (l := [LV (.bool true), LV (.bool false), LV (.bool false), LV (.slice (some ⟨g, 0, none⟩) 2 2), LV (.int .i64 2), LV (.bool false), LV (.bool false), LV (.bool false), LV (.slice (some ⟨g, 0, none⟩) 2 2), LV (.pointer (some ⟨g, 0, none⟩)), LV (vO (oi) pi), LV (vO (quoteO) q0), LV (.bool true), LV (.bool false)]) ⟨mLV _, mLV _, mLV _, mLV _, mLV _, mLV _, mLV _, mLV _, mLV _, mLV _, mLV _, mLV _, mLV _, mLV _, trivial⟩) (by
  intro i j hi hj h
  exact inj_getD [14, 15, 16, 17, 18, 19, 20, 21, 22, 23, 24, 25, 26, 27] (by decide) i j hi hj h) (by
  intro i hi
  exact lt_getD 33 [14, 15, 16, 17, 18, 19, 20, 21, 22, 23, 24, 25, 26, 27] (by decide) i hi) ?step ?done
 case step =>
  intro i hi a w9 v lo hi' hoth hb hw
  have sl6 : a.tmps[6]? = some (.bool true) := (hoth 6 (fun j hj => by
   have := ne_getD 6 [14, 15, 16, 17, 18, 19, 20, 21, 22, 23, 24, 25, 26, 27] (by decide) j hj
   exact this)).trans rfl
  have sl5 : a.tmps[5]? = some (.slice (some ⟨g, 0, none⟩) 2 2) := (hoth 5 (fun j hj => by
   have := ne_getD 5 [14, 15, 16, 17, 18, 19, 20, 21, 22, 23, 24, 25, 26, 27] (by decide) j hj
   exact this)).trans rfl
  have sl4 : a.tmps[4]? = some (.pointer (some ⟨w1.heap.size, 0, none⟩)) := (hoth 4 (fun j hj => by
   have := ne_getD 4 [14, 15, 16, 17, 18, 19, 20, 21, 22, 23, 24, 25, 26, 27] (by decide) j hj
   exact this)).trans rfl
  match i, hi with
  | 0, _ =>
   exact gw_move rfl (wanted_plain rfl) 6 _ rfl sl6 ⟨_, rfl, Below.refl _ _, rfl⟩
  | 1, _ =>
   obtain ⟨s0, r0, _⟩ := hw 0 (by omega) (by kernel_rfl)
   have e0 : v 0 = .bool true := r0
   rw [e0] at s0
   exact gw_not rfl (wanted_plain rfl) 14 _ _ rfl s0 ⟨_, rfl, Below.refl _ _, rfl⟩
  | 2, _ =>
   obtain ⟨s0, r0, _⟩ := hw 1 (by omega) (by kernel_rfl)
   have e0 : v 1 = .bool false := r0
   rw [e0] at s0
   exact gw_move rfl (wanted_plain rfl) 15 _ rfl s0 ⟨_, rfl, Below.refl _ _, rfl⟩
  | 3, _ =>
   obtain ⟨s9, r9, _⟩ := hw 2 (by omega) (by kernel_rfl)
   have e9 : v 2 = .bool false := r9
   rw [e9] at s9
   exact gw_move rfl (wanted_on rfl rfl rfl s9 rfl) 5 _ rfl sl5 ⟨_, rfl, Below.refl _ _, rfl⟩
  | 4, _ =>
   obtain ⟨s9, r9, _⟩ := hw 2 (by omega) (by kernel_rfl)
   have e9 : v 2 = .bool false := r9
   rw [e9] at s9
   obtain ⟨s0, r0, _⟩ := hw 3 (by omega) (by kernel_rfl)
   have e0 : v 3 = .slice (some ⟨g, 0, none⟩) 2 2 := r0
   rw [e0] at s0
   exact gw_lenU rfl (wanted_on rfl rfl rfl s9 rfl) 17 _ _ _ rfl s0 ⟨_, rfl, Below.refl _ _, rfl⟩
  | 5, _ =>
   obtain ⟨s9, r9, _⟩ := hw 2 (by omega) (by kernel_rfl)
   have e9 : v 2 = .bool false := r9
   rw [e9] at s9
   obtain ⟨s0, r0, _⟩ := hw 4 (by omega) (by kernel_rfl)
   have e0 : v 4 = .int .i64 2 := r0
   rw [e0] at s0
   exact gw_neqU rfl (wanted_on rfl rfl rfl s9 rfl) 18 _ rfl s0 ⟨_, rfl, Below.refl _ _, rfl⟩
  | 6, _ =>
   obtain ⟨s0, r0, _⟩ := hw 2 (by omega) (by kernel_rfl)
   have e0 : v 2 = .bool false := r0
   rw [e0] at s0
   obtain ⟨s1, r1, _⟩ := hw 5 (by omega) (by kernel_rfl)
   have e1 : v 5 = .bool false := r1
   rw [e1] at s1
   exact gw_pickU rfl (wanted_plain rfl) 16 19 _ _ rfl s0 s1 ⟨_, rfl, Below.refl _ _, rfl⟩
  | 7, _ =>
   obtain ⟨s0, r0, _⟩ := hw 6 (by omega) (by kernel_rfl)
   have e0 : v 6 = .bool false := r0
   rw [e0] at s0
   exact gw_move rfl (wanted_plain rfl) 20 _ rfl s0 ⟨_, rfl, Below.refl _ _, rfl⟩
  | 8, _ =>
   obtain ⟨s9, r9, _⟩ := hw 7 (by omega) (by kernel_rfl)
   have e9 : v 7 = .bool false := r9
   rw [e9] at s9
   exact gw_move rfl (wanted_on rfl rfl rfl s9 rfl) 5 _ rfl sl5 ⟨_, rfl, Below.refl _ _, rfl⟩
  | 9, _ =>
   obtain ⟨s9, r9, _⟩ := hw 7 (by omega) (by kernel_rfl)
   have e9 : v 7 = .bool false := r9
   rw [e9] at s9
   obtain ⟨s0, r0, _⟩ := hw 8 (by omega) (by kernel_rfl)
   have e0 : v 8 = .slice (some ⟨g, 0, none⟩) 2 2 := r0
   rw [e0] at s0
   exact gw_idxU rfl (wanted_on rfl rfl rfl s9 rfl) 22 _ _ _ rfl s0 ⟨_, rfl, Below.refl _ _, rfl⟩
  | 10, _ =>
   obtain ⟨s9, r9, _⟩ := hw 7 (by omega) (by kernel_rfl)
   have e9 : v 7 = .bool false := r9
   rw [e9] at s9
   obtain ⟨s0, r0, _⟩ := hw 9 (by omega) (by kernel_rfl)
   have e0 : v 9 = .pointer (some ⟨g, 0, none⟩) := r0
   rw [e0] at s0
   exact gw_ldU rfl (wanted_on rfl rfl rfl s9 rfl) 23 rfl s0 (HI.out.below hb) ⟨_, rfl, Below.refl _ _, rfl⟩
  | 11, _ =>
   obtain ⟨s9, r9, _⟩ := hw 7 (by omega) (by kernel_rfl)
   have e9 : v 7 = .bool false := r9
   rw [e9] at s9
   exact gw_box rfl (wanted_on rfl rfl rfl s9 rfl) (.tmp 4) rfl (eval_of sl4) (D0.out.keep hb) ⟨_, rfl, Below.refl _ _, rfl⟩
  | 12, _ =>
   obtain ⟨s9, r9, _⟩ := hw 7 (by omega) (by kernel_rfl)
   have e9 : v 7 = .bool false := r9
   rw [e9] at s9
   obtain ⟨s0, r0, _⟩ := hw 10 (by omega) (by kernel_rfl)
   have e0 : v 10 = vO (oi) pi := r0
   rw [e0] at s0
   obtain ⟨s1, r1, _⟩ := hw 11 (by omega) (by kernel_rfl)
   have e1 : v 11 = vO (quoteO) q0 := r1
   rw [e1] at s1
   refine gw_tt rfl (wanted_on rfl rfl rfl s9 rfl) 152 24 25 _ _ _ rfl (fun v u w => by go_simp) s0 s1 ?_
   with_reducible refine (CE.out w9 pi q0 (KI.out.below hb) (k0.out.below hb)).mono ?_
   rintro e w3 ⟨rfl, hb3⟩
   exact ⟨_, rfl, _, rfl, hb3, rfl⟩
  | 13, _ =>
   obtain ⟨s9, r9, _⟩ := hw 7 (by omega) (by kernel_rfl)
   have e9 : v 7 = .bool false := r9
   rw [e9] at s9
   obtain ⟨s0, r0, _⟩ := hw 12 (by omega) (by kernel_rfl)
   have e0 : v 12 = .bool true := r0
   rw [e0] at s0
   exact gw_not rfl (wanted_on rfl rfl rfl s9 rfl) 26 _ _ rfl s0 ⟨_, rfl, Below.refl _ _, rfl⟩
  | k + 14, h => exact absurd h (by omega)
 case done =>
  intro a w9 v lo hi' hdef hsz hoth hb hj hap
  obtain ⟨_, hv7, _, _⟩ := hj 7 (by omega)
  obtain ⟨_, hv13, _, _⟩ := hj 13 (by omega)
  have ha := eq_puts hdef hsz hoth (fun i hi => (hj i hi).1)
  subst ha
  clear hj hoth hdef hsz hap
  change v 7 = _ at hv7
  change v 13 = _ at hv13
  simp only [puts, List.getD_cons_zero, List.getD_cons_succ, hv7, hv13]
  generalize v 0 = v0
  generalize v 1 = v1
  generalize v 2 = v2
  generalize v 3 = v3
  generalize v 4 = v4
  generalize v 5 = v5
  generalize v 6 = v6
  generalize v 8 = v8
  generalize v 9 = v9
  generalize v 10 = v10
  generalize v 11 = v11
  generalize v 12 = v12
  clear hv7 hv13
  simp only [Act.put, List.setIfInBounds_toArray, List.set_cons_zero, List.set_cons_succ]
  show wpList _ _ _ [_] _ _
  replace B0 := qh9 (B0.out.keep hb)
  replace K0 := qh9 (K0.out.below hb)
  replace R0 := qh9 (R0.out.keep hb)
  replace HW := qc9 HW hb
  replace k0 := qh9 (k0.out.below hb)
  replace D0 := qh9 (D0.out.keep hb)
  replace KI := qh9 (KI.out.below hb)
  replace HI := qh9 (HI.out.below hb)
  replace HX := qh9 (HX.out.below hb)
  clear hb
  have KX1 := qh9 (KX.out.below (HZ.out.trans (HW.out.mono HZ.out.size)))
  go_wp2_with (first | ((with_reducible refine loadCU ?_ ?_ HX.out ?_); exact ⟨_, rfl, rfl⟩; rfl) | ((with_reducible refine storeB (w1 := w9) (g := w.heap.size + 1) (b := ox) (p := px) (.tmp 2) (.tmp 32) ?_ ?_ ?_ ?_ KX1.out R0.out ?_); rfl; rfl; rfl; rfl))
  exact retQSs rfl rfl rfl R0.out rfl KX.out (by omega) HW.out
theorem quotedP (o : Ob) (p : Value) (W0 w : World) (hz : Below W0.heap.size W0 w) (hp0 : Hd W0 o p) (d : Nat) (hd : d ≤ 1000) (hb : o.bd d) (hn : o.nodes ≤ 3000) : Calls Tryz.prog 110 #[vO o p] w (RetQU W0 w (qO o)) := by
 have ci : ∀ X, Below W0.heap.size W0 X → Hd X o p → Calls Tryz.prog 151 #[vO o p] X (RetIt X (Has W0) o.items) := fun X h _ => itemsP o p X (Has W0) (fun b hb => Nat.lt_of_lt_of_le hb h.size) (hp0.keep (fun b h => h) (fun b hb => h.block b hb)) (by omega)
 have hp : Hd w o p := hp0.below hz
 clear hp0
 unfold qO
 cases hi : o.items with
 | none => rw [hi] at ci; exact quotedN o p W0 w hz hp ci
 | some l =>
  rw [hi] at ci
  have hol := Ob.items_eq hi
  match l, ci, hol with
  | [], ci, _ => exact quotedL o p W0 w hz hp [] (by simp) ci
  | [a], ci, _ => exact quotedL o p W0 w hz hp [a] (by simp) ci
  | a :: b :: c :: l, ci, _ => exact quotedL o p W0 w hz hp (a :: b :: c :: l) (by simp) ci
  | [i, x], ci, hol =>
   rw [hol] at hb hn
   have h1 : i.bd d := hb.1
   have h2 : i.nodes ≤ 3000 := by
    have e : (Ob.list [i, x]).nodes = 1 + i.nodes + (Ob.list [x]).nodes := rfl
    omega
   have h3 : quoteO.bd d := (⟨.inl rfl, by decide, by decide⟩ : SyOk lispB [113, 117, 111, 116, 101])
   by_cases e : i = quoteO
   · show Calls _ _ _ _ (RetQU W0 w (if i = quoteO then some x else none))
     rw [if_pos e]
     exact quotedT o p W0 w hz hp i x ci (fun X p q h h' => by
      have := equalP d hd i quoteO p q X (Has X) (In.has X) h h' h1 h3 h2
      rwa [decide_eq_true e] at this)
   · show Calls _ _ _ _ (RetQU W0 w (if i = quoteO then some x else none))
     rw [if_neg e]
     exact quotedF o p W0 w hz hp i x ci (fun X p q h h' => by
      have := equalP d hd i quoteO p q X (Has X) (In.has X) h h' h1 h3 h2
      rwa [decide_eq_false e] at this)
theorem consNG (W0 w : World) (g : Nat) (lv : Value) (cur : ByteArray) (a d : Ob) (p bp bv : Value) (acc R : List UInt8) (L : List Spn) (hW : Below W0.heap.size W0 w) (hP : PrW w W0.heap.size g lv cur bp bv acc)
 (cq : ∀ X, Below w.heap.size w X → Calls Tryz.prog 110 #[vO (.cons a d) p] X (RetQU W0 X none))
 (cl : ∀ X, Below w.heap.size w X → Calls Tryz.prog 111 #[.pointer (some ⟨g, 0, none⟩), vO (.cons a d) p] X (RetGE W0.heap.size g lv cur R L X)) :
 Calls Tryz.prog 83 #[.pointer (some ⟨g, 0, none⟩), vO (.cons a d) p] w (RetGE W0.heap.size g lv cur R L w) := by
 have CQ := qh9 cq
 have CL := qh9 cl
 have HB := qh9 (show W0.heap.size ≤ w.heap.size from hW.size)
 clear cq cl hP hW
 have ea : cellsO (.cons a d) p = [.int .i64 4, .string ⟨#[]⟩, .string ⟨#[]⟩, .string ⟨#[]⟩, .string ⟨#[]⟩, .string ⟨#[]⟩, p] := rfl
 have T := Bx1.new w #[.int .i64 4, .string ⟨#[]⟩, .string ⟨#[]⟩, .string ⟨#[]⟩, .string ⟨#[]⟩, .string ⟨#[]⟩, p]
 rw [vO_cells ea]
 go_enter Tryz.func83, Tryz.ntmps83
 go_upto_region 1 with fail
 generalize w.alloc (.cells #[.int .i64 4, .string ⟨#[]⟩, .string ⟨#[]⟩, .string ⟨#[]⟩, .string ⟨#[]⟩, .string ⟨#[]⟩, p] 39) = W at T ⊢
 have B0 : Hid (Bx W (w.heap.size) (cellsO (.cons a d) p).toArray) := by rw [ea]; exact T.b0
 have HW := qh9 T.bel
 clear T ea
 go_wp2_with (first | ((with_reducible refine loadB (.tmp 3) ?_ ?_ ?_ B0.out ?_); rfl; rfl; rfl))
 with_reducible refine (CQ.out _ HW.out).mono ?_
 rintro e w1 ⟨rfl, hb⟩
 replace B0 := qh9 (B0.out.keep hb)
 replace HW := qc9 HW hb
 clear hb
 have T1 := qh9 (aO_new w1 #[.int .i64 0, .string ⟨#[]⟩, .string ⟨#[]⟩, .string ⟨#[]⟩, .string ⟨#[]⟩, .string ⟨#[]⟩, .slice none 0 0])
 have hb2 : Below w1.heap.size w1 (World.setRow (w1.alloc (.cells #[.int .i64 0, .string ⟨#[]⟩, .string ⟨#[]⟩, .string ⟨#[]⟩, .string ⟨#[]⟩, .string ⟨#[]⟩, .slice none 0 0] 39)) w1.heap.size zeroC) := below_setRowO (aO_below w1 _) (Nat.le_refl _) _
 replace B0 := qh9 (B0.out.keep hb2)
 replace HW := qc9 HW hb2
 clear hb2
 unfold aO at T1
 go_wp2_with (first
  | ((with_reducible refine storeZU (g := w1.heap.size) (.tmp 5) (.tmp 10) ?_ ?_ ?_ ?_ T1.out ?_); rfl; rfl; rfl; rfl; generalize World.setRow (w1.alloc (.cells #[.int .i64 0, .string ⟨#[]⟩, .string ⟨#[]⟩, .string ⟨#[]⟩, .string ⟨#[]⟩, .string ⟨#[]⟩, .slice none 0 0] 39)) w1.heap.size zeroC = X1 at B0 HW ⊢; clear T1)
  | ((with_reducible refine loadB (.tmp 3) ?_ ?_ ?_ B0.out ?_); rfl; rfl; rfl))
 with_reducible refine (CL.out _ HW.out).mono ?_
 rintro e w2 ⟨⟨v, rfl, hv⟩, hp2, hk2⟩
 have HS := HW.out.size
 have KK := qh9 ((KpG.of (g := g) HW.out HB.out).trans hk2)
 have HV := qh9 (hv.keep (S' := fun b => w.heap.size ≤ b ∧ b < w2.heap.size) (fun b hb => ⟨by have := hb.1; omega, hb.2⟩) (fun _ _ _ _ => rfl))
 clear hk2 hv HS
 go_wp2
 go_ret
 exact ⟨⟨v, rfl, HV.out⟩, hp2, KK.out⟩
theorem consQG (W0 w : World) (g : Nat) (l : List Sy.Pg) (lv : Value) (cur : ByteArray) (a d x : Ob) (p bp bv : Value) (acc : List UInt8) (hW : Below W0.heap.size W0 w) (hP : PrW w W0.heap.size g lv cur bp bv acc)
 (cq : ∀ X, Below w.heap.size w X → Calls Tryz.prog 110 #[vO (.cons a d) p] X (RetQU W0 X (some x)))
 (co : PrC W0 g l lv cur x) (hz : acc.length + 1 + (prO (nmU l cur) x).length ≤ 100000000) :
 Calls Tryz.prog 83 #[.pointer (some ⟨g, 0, none⟩), vO (.cons a d) p] w (RetGE W0.heap.size g lv cur (acc ++ 39 :: prO (nmU l cur) x) [] w) := by
 have CQ := qh9 cq
 have CO := qh9 co
 have HB := qh9 hW
 have HP := qh9 hP
 have HZ := qh9 hz
 clear cq co hP hW hz
 have ea : cellsO (.cons a d) p = [.int .i64 4, .string ⟨#[]⟩, .string ⟨#[]⟩, .string ⟨#[]⟩, .string ⟨#[]⟩, .string ⟨#[]⟩, p] := rfl
 have T := Bx1.new w #[.int .i64 4, .string ⟨#[]⟩, .string ⟨#[]⟩, .string ⟨#[]⟩, .string ⟨#[]⟩, .string ⟨#[]⟩, p]
 rw [vO_cells ea]
 go_enter Tryz.func83, Tryz.ntmps83
 go_upto_region 1 with fail
 generalize w.alloc (.cells #[.int .i64 4, .string ⟨#[]⟩, .string ⟨#[]⟩, .string ⟨#[]⟩, .string ⟨#[]⟩, .string ⟨#[]⟩, p] 39) = W at T ⊢
 have B0 : Hid (Bx W (w.heap.size) (cellsO (.cons a d) p).toArray) := by rw [ea]; exact T.b0
 have HW := qh9 T.bel
 clear T ea
 go_wp2_with (first | ((with_reducible refine loadB (.tmp 3) ?_ ?_ ?_ B0.out ?_); rfl; rfl; rfl))
 with_reducible refine (CQ.out _ HW.out).mono ?_
 rintro e w1 ⟨q, rfl, hq, hb⟩
 replace HW := qc9 HW hb
 clear hb B0 CQ
 have HQ := qh9 hq
 have HQ1 := qh9 (hq.below (HB.out.trans (HW.out.mono HB.out.size)))
 clear hq
 have T1 := qh9 (aO_new w1 #[.int .i64 0, .string ⟨#[]⟩, .string ⟨#[]⟩, .string ⟨#[]⟩, .string ⟨#[]⟩, .string ⟨#[]⟩, .slice none 0 0])
 unfold aO at T1
 have hlt := HW.out.size
 have hgl := HP.out.lt
 go_wp2_with (first
  | ((with_reducible refine storeB (w1 := w1) (g := w1.heap.size) (b := x) (p := q) (.tmp 5) (.tmp 10) ?_ ?_ ?_ ?_ HQ1.out T1.out ?_); rfl; rfl; rfl; rfl; have P := Pt1U.new (w := w1) (o := x) (p := q) (z := #[.int .i64 0, .string ⟨#[]⟩, .string ⟨#[]⟩, .string ⟨#[]⟩, .string ⟨#[]⟩, .string ⟨#[]⟩, .slice none 0 0]); generalize World.setRow (w1.alloc (.cells #[.int .i64 0, .string ⟨#[]⟩, .string ⟨#[]⟩, .string ⟨#[]⟩, .string ⟨#[]⟩, .string ⟨#[]⟩, .slice none 0 0] 39)) w1.heap.size (cellsO x q).toArray = X1 at P ⊢; replace HW := qh9 (chain2 HW.out P.bel (Nat.le_refl _)); have D0 := qh9 P.b0; clear P T1 HQ1))
 have HP1 := qh9 (HP.out.keep HW.out)
 have hgne : w1.heap.size ≠ g := by omega
 have KA := qh9 (KpG.of (g := g) HW.out HB.out.size)
 clear HP hlt hgl
 generalize w1.heap.size = k1 at D0 hgne ⊢
 have HGN := qh9 hgne
 clear hgne
 with_reducible refine (writeG _ _ g lv cur _ _ acc ⟨#[39]⟩ HP1.out (by have := HZ.out; have e1 : (⟨#[39]⟩ : ByteArray).size = 1 := rfl; omega)).mono ?_
 rintro e w2 ⟨rfl, ⟨bv2, hp2⟩, hk2⟩
 have HP2 : Hid (PrW w2 W0.heap.size g lv cur (.pointer (some ⟨g, 2, none⟩)) bv2 (acc ++ [39])) := hp2
 replace D0 := qh9 (D0.out.kg hk2 HGN.out)
 replace KA := qh9 (KA.out.trans hk2)
 clear hp2 hk2 HP1 HW
 have HB2 := qh9 (HB.out.trans KA.out.bel)
 go_wp2_with (first | ((with_reducible refine loadB (.tmp 5) ?_ ?_ ?_ D0.out ?_); rfl; rfl; rfl))
 with_reducible refine (CO.out.go _ _ _ q (acc ++ [39]) HB2.out HP2.out HQ.out (by have := HZ.out; simp only [List.length_append, List.length_cons, List.length_nil]; omega)).mono ?_
 rintro e w3 ⟨⟨v, rfl, _⟩, hp3, hk3⟩
 have HP3 : Hid (∃ bp bv, PrW w3 W0.heap.size g lv cur bp bv (acc ++ 39 :: prO (nmU l cur) x)) := by
  obtain ⟨bp, bv, h⟩ := hp3
  exact ⟨bp, bv, by simpa using h⟩
 replace KA := qh9 (KA.out.trans hk3)
 clear hp3 hk3
 go_wp2
 go_ret
 exact ⟨⟨_, rfl, .nil⟩, HP3.out, KA.out⟩
theorem consG (W0 w : World) (g : Nat) (l : List Sy.Pg) (lv : Value) (cur : ByteArray) (a d : Ob) (p bp bv : Value) (acc : List UInt8) (k : Nat) (hk : k ≤ 1000) (hb : (Ob.cons a d).bd k) (hn : (Ob.cons a d).nodes ≤ 3000)
 (hW : Below W0.heap.size W0 w) (hP : PrW w W0.heap.size g lv cur bp bv acc) (hp : Hd W0 (.cons a d) p) (hz : acc.length + (prO (nmU l cur) (.cons a d)).length ≤ 100000000)
 (cl : isQU a d = false → ∀ X, Below w.heap.size w X → Calls Tryz.prog 111 #[.pointer (some ⟨g, 0, none⟩), vO (.cons a d) p] X (RetGE W0.heap.size g lv cur (acc ++ prO (nmU l cur) (.cons a d)) (spU (nmU l cur) acc.length (.cons a d)).l X))
 (co : ∀ x, x.nodes < (Ob.cons a d).nodes → x.bd k → PrC W0 g l lv cur x) :
 Calls Tryz.prog 83 #[.pointer (some ⟨g, 0, none⟩), vO (.cons a d) p] w (RetGE W0.heap.size g lv cur (acc ++ prO (nmU l cur) (.cons a d)) (spU (nmU l cur) acc.length (.cons a d)).l w) := by
 have cq : ∀ X, Below w.heap.size w X → Calls Tryz.prog 110 #[vO (.cons a d) p] X (RetQU W0 X (qO (.cons a d))) := fun X h => quotedP _ p W0 X (hW.trans (h.mono hW.size)) hp k hk hb hn
 rw [qO_cons] at cq
 cases hq : isQU a d with
 | false =>
  rw [hq] at cq
  exact consNG W0 w g lv cur a d p bp bv acc _ _ hW hP cq (cl hq)
 | true =>
  rw [hq, if_pos rfl] at cq
  cases d with
  | num q => cases hq
  | str s => cases hq
  | sym x y => cases hq
  | cons x e =>
   have e1 : prO (nmU l cur) (.cons a (.cons x e)) = 39 :: prO (nmU l cur) x := by rw [prO_cons, hq, if_pos rfl]
   have e2 : (spU (nmU l cur) acc.length (.cons a (.cons x e))).l = [] := by unfold spU; rw [hq]; rfl
   rw [e1] at hz ⊢
   rw [e2]
   refine consQG W0 w g l lv cur a (.cons x e) x p bp bv acc hW hP cq (co x ?_ hb.2.1) (by simp only [List.length_cons] at hz; omega)
   show x.nodes < 1 + a.nodes + (1 + x.nodes + e.nodes)
   omega
theorem SpL.shape {w : World} {S : Nat → Prop} {l : List Spn} {v : Value} (h : SpL w S l v) : ∃ A n c, v = .slice A n c := by
 cases h with
 | nil => exact ⟨_, _, _, rfl⟩
 | row b c => exact ⟨_, _, _, rfl⟩
theorem SpB.set2 {w : World} {k : Nat} {x y z : Value} (h : SpB w k x y z) (u : Value) : SpB (w.setCell ⟨k, 2, none⟩ u) k x y u := by
 unfold SpB at h ⊢
 simp [World.setCell, Array.getElem?_modify, h]
theorem SpB.set1 {w : World} {k : Nat} {x y z : Value} (h : SpB w k x y z) (u : Value) : SpB (w.setCell ⟨k, 1, none⟩ u) k x u z := by
 unfold SpB at h ⊢
 simp [World.setCell, Array.getElem?_modify, h]
theorem SpB.fr {w : World} {k : Nat} {x y z : Value} (h : SpB w k x y z) (i : Nat) : w.frozen? ⟨k, i, none⟩ = false := by
 unfold SpB at h
 simp [World.frozen?, h]
theorem SpB.c {w : World} {k : Nat} {x y z : Value} (h : SpB w k x y z) : w.cell? ⟨k, 0, none⟩ = some x ∧ w.cell? ⟨k, 1, none⟩ = some y ∧ w.cell? ⟨k, 2, none⟩ = some z := by
 refine ⟨?_, ?_, ?_⟩ <;> (rw [cell_of_row _ _ _ _ _ _ h]; rfl)
theorem objConsG (a d : Ob) (p : Value) (w : World) (B g : Nat) (lv : Value) (cur : ByteArray) (bp bv : Value) (acc R : List UInt8) (L : List Spn) (h : PrW w B g lv cur bp bv acc) (hB : B ≤ w.heap.size)
 (hC : ∀ X, Below w.heap.size w X → Calls Tryz.prog 83 #[.pointer (some ⟨g, 0, none⟩), vO (.cons a d) p] X (RetGE B g lv cur R L X)) :
 Calls Tryz.prog 50 #[.pointer (some ⟨g, 0, none⟩), vO (.cons a d) p] w (RetG B g lv cur R (.mk acc.length R.length L) w) := by
 have ea : cellsO (.cons a d) p = [.int .i64 4, .string ⟨#[]⟩, .string ⟨#[]⟩, .string ⟨#[]⟩, .string ⟨#[]⟩, .string ⟨#[]⟩, p] := rfl
 have T := Bx1.new w #[.int .i64 4, .string ⟨#[]⟩, .string ⟨#[]⟩, .string ⟨#[]⟩, .string ⟨#[]⟩, .string ⟨#[]⟩, p]
 have C := qh9 hC
 have H := qh9 h
 rw [vO_cells ea]
 go_enter Tryz.func50, Tryz.ntmps50
 go_upto_region 1 with fail
 generalize hW1 : ((w.alloc (.cells #[.int .i64 4, .string ⟨#[]⟩, .string ⟨#[]⟩, .string ⟨#[]⟩, .string ⟨#[]⟩, .string ⟨#[]⟩, p] 39)).alloc (.cells #[.int .i64 0, .int .i64 0, .slice none 0 0] 89)) = W1
 have hal : Below w.heap.size w W1 := by rw [← hW1]; exact T.bel.trans (Below.mono (below_al _ _) T.bel.size)
 have HB1 := qh9 hal
 have B0 : Hid (Bx W1 w.heap.size #[.int .i64 4, .string ⟨#[]⟩, .string ⟨#[]⟩, .string ⟨#[]⟩, .string ⟨#[]⟩, .string ⟨#[]⟩, p]) := by
  show Bx _ _ _
  rw [← hW1]
  exact T.b0.keep (below_al _ _)
 have R1 : Hid (SpB W1 (w.heap.size + 1) (.int .i64 0) (.int .i64 0) (.slice none 0 0)) := by
  show SpB _ _ _ _ _
  rw [← hW1]
  have e := heap_alloc_new (w.alloc (.cells #[.int .i64 4, .string ⟨#[]⟩, .string ⟨#[]⟩, .string ⟨#[]⟩, .string ⟨#[]⟩, .string ⟨#[]⟩, p] 39)) (.cells #[.int .i64 0, .int .i64 0, .slice none 0 0] 89)
  have e2 : (w.alloc (.cells #[.int .i64 4, .string ⟨#[]⟩, .string ⟨#[]⟩, .string ⟨#[]⟩, .string ⟨#[]⟩, .string ⟨#[]⟩, p] 39)).heap.size = w.heap.size + 1 := by simp
  rw [e2] at e
  exact e
 have H1 := qh9 (H.out.keep hal)
 clear T hal hW1 ea
 have hgl := H.out.lt
 have gne1 : w.heap.size + 1 ≠ g := by omega
 have gne2 : W1.heap.size ≠ g := by have := R1.out.lt; omega
 have gne3 : W1.heap.size ≠ w.heap.size + 1 := by have := R1.out.lt; omega
 have G1 := qh9 gne1
 have G2 := qh9 gne2
 have G3 := qh9 gne3
 have G4 : Hid (w.heap.size + 1 < W1.heap.size) := R1.out.lt
 have HBW := qh9 hB
 clear H h gne1 gne2 gne3 hgl hB hC
 go_wp2_with fail
 with_reducible refine (lenG _ B g lv cur bp bv acc H1.out).mono ?_
 rintro e w2 ⟨rfl, rfl⟩
 go_upto_region 2 with fail
 generalize hW2 : w2.alloc (.cells #[.int .i64 (acc.length : Int), .int .i64 0, .slice none 0 0] 89) = W2
 have hal : Below w2.heap.size w2 W2 := by rw [← hW2]; exact below_al _ _
 have R2 : Hid (SpB W2 w2.heap.size (.int .i64 (acc.length : Int)) (.int .i64 0) (.slice none 0 0)) := by
  show SpB _ _ _ _ _
  rw [← hW2]
  exact heap_alloc_new _ _
 replace B0 := qh9 (B0.out.keep hal)
 replace R1 := qh9 (R1.out.keep hal)
 replace HB1 := qc9 HB1 hal
 generalize w2.heap.size = k2 at R2 G2 G3 G4 ⊢
 clear hal hW2 H1
 have BC : Hid (Bx W2 w.heap.size (cellsO (.cons a d) p).toArray) := B0.out
 obtain ⟨m0, m1, m2, m3, m4, m5, m6⟩ := Bx.c B0.out
 go_wp2_with (first | ((with_reducible refine loadB (.tmp 3) ?_ ?_ ?_ BC.out ?_); rfl; rfl; rfl))
 with_reducible refine (C.out _ HB1.out).mono ?_
 rintro e w4 ⟨⟨v, rfl, hv⟩, ⟨bp4, bv4, hp4⟩, hk4⟩
 obtain ⟨sA, sn, sc, rfl⟩ := hv.shape
 have HV := qh9 hv
 have HP4 := qh9 hp4
 have K4 := qh9 hk4
 have hk2s : k2 < W2.heap.size := R2.out.lt
 have Q1 := qh9 (R1.out.kg K4.out G1.out)
 have Q2 := qh9 (R2.out.kg K4.out G2.out)
 have KA := qh9 ((KpG.of (g := g) HB1.out HBW.out).trans K4.out)
 have HK2S := qh9 hk2s
 have u1 : w4.cell? ⟨k2, 2, none⟩ = some (.slice none 0 0) := Q2.out.c.2.2
 have u2 : w4.frozen? ⟨k2, 2, none⟩ = false := Q2.out.fr 2
 clear hv hp4 hk4 m0 m1 m2 m3 m4 m5 m6 BC B0 hk2s
 go_upto_region 11 with fail
 have kk : ∀ j, j ≠ k2 → (w4.setCell ⟨k2, 2, none⟩ (.slice sA sn sc)).heap[j]? = w4.heap[j]? := fun j hj => Below.heap_setCell w4 ⟨k2, 2, none⟩ _ j hj
 have V2 := qh9 (Q2.out.set2 (.slice sA sn sc))
 have V1 : Hid (SpB (w4.setCell ⟨k2, 2, none⟩ (.slice sA sn sc)) (w.heap.size + 1) (.int .i64 0) (.int .i64 0) (.slice none 0 0)) := (kk _ (fun e => G3.out e.symm)).trans Q1.out
 have P6 := qh9 (HP4.out.typ kk G2.out Q2.out.noRow)
 have K6 := qh9 (KA.out.cell k2 2 (.slice sA sn sc) (by have := G4.out; omega) HBW.out)
 have S6 : Hid (SpL (w4.setCell ⟨k2, 2, none⟩ (.slice sA sn sc)) (fun b => W2.heap.size ≤ b ∧ b < (w4.setCell ⟨k2, 2, none⟩ (.slice sA sn sc)).heap.size) L (.slice sA sn sc)) :=
  HV.out.keep (fun b hb => ⟨hb.1, by simp only [World.setCell]; simpa using hb.2⟩) (fun b cur' hb _ => kk b (by have := HK2S.out; have := hb.1; omega))
 clear u1 u2 kk HV HP4 K4 Q1 Q2 KA
 generalize w4.setCell ⟨k2, 2, none⟩ (.slice sA sn sc) = W6 at V2 V1 P6 K6 S6 ⊢
 go_wp2_with fail
 with_reducible refine (lenG _ B g lv cur _ bv4 _ P6.out).mono ?_
 rintro e w5 ⟨rfl, rfl⟩
 have u1 : w5.cell? ⟨k2, 1, none⟩ = some (.int .i64 0) := V2.out.c.2.1
 have u2 : w5.frozen? ⟨k2, 1, none⟩ = false := V2.out.fr 1
 go_upto_region 12 with fail
 have kk : ∀ j, j ≠ k2 → (w5.setCell ⟨k2, 1, none⟩ (.int .i64 (R.length : Int))).heap[j]? = w5.heap[j]? := fun j hj => Below.heap_setCell w5 ⟨k2, 1, none⟩ _ j hj
 have Z2 := qh9 (V2.out.set1 (.int .i64 (R.length : Int)))
 have Z1 : Hid (SpB (w5.setCell ⟨k2, 1, none⟩ (.int .i64 (R.length : Int))) (w.heap.size + 1) (.int .i64 0) (.int .i64 0) (.slice none 0 0)) := (kk _ (fun e => G3.out e.symm)).trans V1.out
 have P7 := qh9 (P6.out.typ kk G2.out V2.out.noRow)
 have K7 := qh9 (K6.out.cell k2 1 (.int .i64 (R.length : Int)) (by have := G4.out; omega) HBW.out)
 have S7 : Hid (SpL (w5.setCell ⟨k2, 1, none⟩ (.int .i64 (R.length : Int))) (fun b => W2.heap.size ≤ b ∧ b < (w5.setCell ⟨k2, 1, none⟩ (.int .i64 (R.length : Int))).heap.size) L (.slice sA sn sc)) :=
  S6.out.keep (fun b hb => ⟨hb.1, by simp only [World.setCell]; simpa using hb.2⟩) (fun b cur' hb _ => kk b (by have := HK2S.out; have := hb.1; omega))
 clear u1 u2 kk V2 V1 P6 K6 S6
 generalize w5.setCell ⟨k2, 1, none⟩ (.int .i64 (R.length : Int)) = W7 at Z2 Z1 P7 K7 S7 ⊢
 obtain ⟨l0, l1, l2⟩ := Z2.out.c
 have kk : ∀ x j, j ≠ w.heap.size + 1 → (W7.setRow (w.heap.size + 1) x).heap[j]? = W7.heap[j]? := fun x j hj => setRow_other W7 _ j x hj
 go_wp2_with ((with_reducible refine SpB.store (.tmp 4) (.tmp 58) ?_ ?_ (w.heap.size + 1) (.int .i64 (acc.length : Int)) (.int .i64 (R.length : Int)) (.slice sA sn sc) (.int .i64 0) (.int .i64 0) (.slice none 0 0) ?_ ?_ Z1.out ?_ ?_ ?_ ?_); rfl; rfl; rfl; rfl; rfl; rfl; rfl)
 have hsz : W2.heap.size ≥ w.heap.size + 2 := by have := HK2S.out; have := G4.out; omega
 exact retSp rfl rfl (setRow_heap _ _ _ _ _ _ Z1.out) ⟨⟨_, rfl, ⟨_, rfl, S7.out.keep (fun b hb => ⟨by have := hb.1; omega, by rw [size_setRow]; exact hb.2⟩) (fun b cur' hb _ => kk _ b (by have := hb.1; omega))⟩⟩, ⟨_, _, P7.out.typ (kk _) G1.out Z1.out.noRow⟩, K7.out.row _ _ (by omega) HBW.out⟩
/-- The printing adds the text of any object. -/
theorem objG (W0 : World) (g : Nat) (l : List Sy.Pg) (lv : Value) (cur : ByteArray) (hv : Sy.PgV W0 l lv) (hl : l.length ≤ 1000000) (hi : ∀ q ∈ l, q.2.length ≤ 1000000) (hT : EscT W0) (k : Nat) (hk : k ≤ 900) :
 ∀ (m : Nat) (a : Ob), a.nodes ≤ m → a.nodes ≤ 3000 → a.bd k → PrC W0 g l lv cur a := by
 intro m
 induction m with
 | zero => intro a h; have := a.nodes_pos; omega
 | succ m ih =>
  intro a ha hn hb w bp bv p acc hW hP hp hz
  have hB := hW.size
  cases a with
  | num q =>
   have e : spU (nmU l cur) acc.length (.num q) = .mk acc.length (acc.length + (numS q).length) [] := rfl
   rw [e]
   have hz' : acc.length + (numS q).length ≤ 100000000 := hz
   exact objNumG q p w _ g lv cur bp bv acc hP hB ((show Bd k q from hb).more hk) (by omega)
  | str s =>
   have e : spU (nmU l cur) acc.length (.str s) = .mk acc.length (acc.length + (escL 34 s).length) [] := rfl
   rw [e]
   have hz' : acc.length + (escL 34 s).length ≤ 100000000 := hz
   have hs : s.length ≤ 2 * k + 20 := hb
   exact objStrG s p w _ g lv cur bp bv acc hP hB (hT.keep hW) (by omega) (by omega)
  | sym x y =>
   have e : spU (nmU l cur) acc.length (.sym x y) = .mk acc.length (acc.length + (nmU l cur x y).length) [] := rfl
   rw [e]
   have hz' : acc.length + (nmU l cur x y).length ≤ 100000000 := hz
   have hok : SyOk x y := hb
   refine objSymG x y (nmU l cur x y) p w _ g lv cur bp bv acc hP hB ?_ (fun X hX => ?_) (by omega)
   · have := nmU_len l cur x y
     obtain ⟨h1, h2, h3⟩ := hok
     have : x.length ≤ 4 := by rcases h1 with rfl | rfl <;> decide
     omega
   · have h0 := hW.trans (hX.mono hB)
     exact nameTextP l lv cur (BA x) (BA y) X (hv.keep h0) hl hi (symOk_of hok) (hT.keep h0)
  | cons a d =>
   have hnn : (Ob.cons a d).nodes = 1 + a.nodes + d.nodes := rfl
   have e : spU (nmU l cur) acc.length (.cons a d) = .mk acc.length (acc ++ prO (nmU l cur) (.cons a d)).length (spU (nmU l cur) acc.length (.cons a d)).l := by
    unfold spU
    simp only [List.length_append, Spn.l]
   rw [e]
   refine objConsG a d p w _ g lv cur bp bv acc _ _ hP hB fun X hX => ?_
   have h0 := hW.trans (hX.mono hB)
   refine consG W0 X g l lv cur a d p bp bv acc k (by omega) hb hn h0 (hP.keep hX) hp hz (fun hq Y hY => ?_) (fun x hx hxb => ih x (by omega) (by omega) hxb)
   have e1 : prO (nmU l cur) (.cons a d) = 40 :: (prO (nmU l cur) a ++ prT (nmU l cur) d) := by rw [prO_cons, hq]; rfl
   have e2 : (spU (nmU l cur) acc.length (.cons a d)).l = if prpU d = true then spE (nmU l cur) acc.length (.cons a d) else [] := by
    unfold spU
    rw [hq]
    rfl
   rw [e2, e1]
   rw [e1] at hz
   exact listG W0 Y g l lv cur a d p bp bv acc k hb hn (h0.trans (hY.mono h0.size)) ((hP.keep hX).keep hY) hp (by rw [List.length_append]; exact hz) (fun x hx hxb => ih x (by omega) (by omega) hxb)
theorem isNilR (o : Ob) (p : Value) (w : World) (S : Nat → Prop) (hS : In S w) (h : Pair w S o p) : Calls Tryz.prog 88 #[vO o p] w (RetB w (decide (o = .nil))) := by
 obtain ⟨x0, x1, x2, x3, x4, x5, e⟩ := cells7 o p
 have ev : vO o p = .agg #[x0, x1, x2, x3, x4, x5, p] := by unfold vO; rw [e]
 have CE : Hid (∀ X', Below w.heap.size w X' → Calls Tryz.prog 23 #[.agg #[x0, x1, x2, x3, x4, x5, p], .agg #[.int .i64 2, .string ⟨#[]⟩, .string ⟨#[]⟩, .string (BA lispB), .string (BA [110, 105, 108]), .string ⟨#[]⟩, .slice none 0 0]] X' (RetB X' (decide (o = .nil)))) := fun X' hb => by
  rw [← ev]
  exact equalO o .nil p (.slice none 0 0) X' S (hS.later hb.size) (h.below hS hb) rfl
 have CN : Hid (∀ X', Calls Tryz.prog 64 #[] X' fun e w' => e = .returned (.agg #[.int .i64 2, .string ⟨#[]⟩, .string ⟨#[]⟩, .string (BA lispB), .string (BA [110, 105, 108]), .string ⟨#[]⟩, .slice none 0 0]) ∧ Below X'.heap.size X' w') := fun X' => (nilO X' NoB).mono fun _ _ ⟨p, h1, h2, h3⟩ => by
  have e : p = .slice none 0 0 := h2
  subst e
  exact ⟨h1, h3⟩
 rw [ev]
 generalize decide (o = Ob.nil) = b at CE ⊢
 clear ev e h
 have hb0 : Below w.heap.size w (w.alloc (.cells #[x0, x1, x2, x3, x4, x5, p] 39)) := Below.alloc (Below.refl _ _) (Nat.le_refl _) _
 have hg0 := heap_alloc_new w (.cells #[x0, x1, x2, x3, x4, x5, p] 39)
 go_enter Tryz.func88, Tryz.ntmps88
 go_wp2_with fail
 generalize w.alloc (.cells #[x0, x1, x2, x3, x4, x5, p] 39) = W at hb0 hg0 ⊢
 have FC : Hid (∀ X', Below W.heap.size W X' → X'.cell? ⟨w.heap.size, 0, none⟩ = some x0 ∧ X'.cell? ⟨w.heap.size, 1, none⟩ = some x1 ∧ X'.cell? ⟨w.heap.size, 2, none⟩ = some x2 ∧ X'.cell? ⟨w.heap.size, 3, none⟩ = some x3 ∧ X'.cell? ⟨w.heap.size, 4, none⟩ = some x4 ∧ X'.cell? ⟨w.heap.size, 5, none⟩ = some x5 ∧ X'.cell? ⟨w.heap.size, 6, none⟩ = some p) := fun X' h => (row7 ((h.block _ (lt_of_heap hg0)).trans hg0)).1
 have HB : Hid (∀ X', Below W.heap.size W X' → Below w.heap.size w X') := fun X' h => hb0.trans (h.mono hb0.size)
 obtain ⟨m0, m1, m2, m3, m4, m5, m6⟩ := FC.out W (Below.refl _ _)
 have hB0 : Below W.heap.size W W.drew := (Below.refl _ _).drew
 clear hb0 hg0
 go_region_held3 (fun X' => X'.cell? ⟨w.heap.size, 0, none⟩ = some x0 ∧ X'.cell? ⟨w.heap.size, 1, none⟩ = some x1 ∧ X'.cell? ⟨w.heap.size, 2, none⟩ = some x2 ∧ X'.cell? ⟨w.heap.size, 3, none⟩ = some x3 ∧ X'.cell? ⟨w.heap.size, 4, none⟩ = some x4 ∧ X'.cell? ⟨w.heap.size, 5, none⟩ = some x5 ∧ X'.cell? ⟨w.heap.size, 6, none⟩ = some p) (first | exact FC.out _ ‹Below W.heap.size W _› | go_keep)
  (first
    | (go_at_call 64; refine (CN.out _).mono ?_; rintro e u1 ⟨rfl, hb1⟩; have hB1 := chain2 ‹Below W.heap.size W _› hb1 (Nat.le_refl _); clear hb1)
    | (go_at_call 23; refine (CE.out _ (HB.out _ ‹Below W.heap.size W _›)).mono ?_; rintro e u2 ⟨rfl, hb2⟩; have hB2 := chain2 ‹Below W.heap.size W _› hb2 (Nat.le_refl _); clear hb2))
 all_goals go_wp2
 all_goals go_ret
 all_goals exact ⟨rfl, HB.out _ ‹Below W.heap.size W _›⟩
end Go.Proofs.YtlmnjelideegnaaGreatDoor
