import Derived.Test.YtlmnjelideegnaaGreatDoorAl
import Derived.Test.YtlmnjelideegnaaGreatDoorG30
import Derived.Test.YtlmnjelideegnaaGreatDoorG28
import Derived.Test.YtlmnjelideegnaaGreatDoorG17
namespace Go.Proofs.YtlmnjelideegnaaGreatDoor
open Go Go.RowKit
set_option linter.unusedVariables false
set_option maxHeartbeats 32000000
set_option maxRecDepth 100000
theorem chk_cases (l : List Sy.Pg) (cur : ByteArray) (o : Ob) (b : Bool) : chkV l cur o b = 0 ∨ chkV l cur o b = 1 ∨ chkV l cur o b = 13 := by
 unfold chkV
 split
 · split
   · exact .inl rfl
   · exact .inr (.inr rfl)
 · exact .inr (.inl rfl)
theorem printP (l : List Sy.Pg) (v : Value) (cur : ByteArray) (o : Ob) (p : Value) (b : Bool) (w : World) (hv : Sy.PgV w l v) (hl : l.length ≤ 1000000) (hi : ∀ q ∈ l, q.2.length ≤ 1000000) (hT : EscT w) (h : Hd w o p) (k : Nat) (hk : k ≤ 900) (hbd : o.bd k) (hn : o.nodes ≤ 3000)
 (hV : ∀ X, Below w.heap.size w X → Calls Tryz.prog 66 #[vO o p] X (RetB X b)) :
 Calls Tryz.prog 18 #[v, .string cur, vO o p] w (RetTE w (prV l cur o b).1 (prV l cur o b).2) := by
 have CC : Hid (∀ X, Below w.heap.size w X → Calls Tryz.prog 49 #[v, .string cur, vO o p] X (RetI X (chkV l cur o b))) := fun X hb => checkObjectP l v cur o p b X (hv.keep hb) hl hi (h.below hb) (fun Y hY => hV Y (hb.trans (hY.mono hb.size)))
 have hz := (prO_len (k := k) (c := 4 * k + 100) (nm := nmU l cur) (Nat.le_refl _) (nmU_len88 l cur) 3000 o hn hbd).1
 have hz2 : (prO (nmU l cur) o).length ≤ 100000000 := by
  have h1 : (4 * k + 100) * o.nodes ≤ 4000 * 3000 := Nat.mul_le_mul (by omega) hn
  omega
 have HZ := qh9 hz2
 have HNE := qh9 (prO_ne (nmU_ne l cur) hbd)
 have CO : Hid (∀ W0 g, Below w.heap.size w W0 → PrC W0 g l v cur o) := fun W0 g hb => objG W0 g l v cur (hv.keep hb) hl hi (hT.keep hb) k hk 3000 o hn hn hbd
 have HD := qh9 h
 have hcc := chk_cases l cur o b
 unfold prV
 generalize chkV l cur o b = c at CC hcc ⊢
 obtain ⟨V, hV2⟩ : ∃ V : ByteArray × Int, (if c = 0 then (BA (prO (nmU l cur) o), (0 : Int)) else (⟨#[]⟩, c)) = V := ⟨_, rfl⟩
 rw [hV2]
 have HV := qh9 hV2
 obtain ⟨Vs, Vn⟩ := V
 clear hV2
 obtain ⟨A, cc, rfl, hx⟩ := hv
 clear hz hz2 hV hT hbd h hx hl hi
 generalize l.length = ln at *
 obtain ⟨a0, a1, a2, a3, a4, a5, ea⟩ := cells7 o p
 have T := Bx1.new w #[a0, a1, a2, a3, a4, a5, p]
 rw [vO_cells ea]
 go_enter Tryz.func18, Tryz.ntmps18
 go_upto_region 1 with fail
 generalize w.alloc (.cells #[a0, a1, a2, a3, a4, a5, p] 39) = W at T ⊢
 have B0 : Hid (Bx W (w.heap.size) (cellsO o p).toArray) := by rw [ea]; exact T.b0
 have HW := qh9 T.bel
 clear T ea
 go_wp2_with (first | ((with_reducible refine loadB (.tmp 5) ?_ ?_ ?_ B0.out ?_); rfl; rfl; rfl))
 with_reducible refine (CC.out _ HW.out).mono ?_
 rintro e w1 ⟨rfl, hb⟩
 replace B0 := qh9 (B0.out.keep hb)
 replace HW := qc9 HW hb
 clear hb CC
 rcases hcc with rfl | rfl | rfl
 · have hx := Prod.mk.inj HV.out
   obtain ⟨hx1, hx2⟩ := hx
   subst hx1 hx2
   clear HV
   have hP1 : Hid (PrW (w1.alloc (.cells #[.slice A ln cc, .string cur, .pointer none, .slice none 0 0] 86)) w1.heap.size w1.heap.size (.slice A ln cc) cur (.pointer none) (.slice none 0 0) []) :=
    ⟨Nat.le_refl _, heap_alloc_new _ _, .inl rfl, ⟨rfl, .inl ⟨rfl, rfl⟩⟩⟩
   have hal := below_al w1 (.cells #[.slice A ln cc, .string cur, .pointer none, .slice none 0 0] 86)
   replace B0 := qh9 (B0.out.keep hal)
   have CT := qh9 (CO.out w1 w1.heap.size HW.out)
   have HD1 := qh9 (HD.out.below HW.out)
   have HAL := qh9 hal
   clear hal CO HD
   go_upto_region 5 with fail
   generalize w1.alloc (.cells #[.slice A ln cc, .string cur, .pointer none, .slice none 0 0] 86) = W1 at hP1 B0 HAL ⊢
   go_wp2_with (first | ((with_reducible refine loadB (.tmp 5) ?_ ?_ ?_ B0.out ?_); rfl; rfl; rfl))
   with_reducible refine (CT.out.go W1 _ _ p [] HAL.out hP1.out HD1.out (by have := HZ.out; simpa using this)).mono ?_
   rintro e w2 ⟨⟨v2, rfl, _⟩, ⟨bp2, bv2, hp2⟩, hk2⟩
   have HP2 : Hid (PrW w2 w1.heap.size w1.heap.size (.slice A ln cc) cur bp2 bv2 (prO (nmU l cur) o)) := by
    rw [List.nil_append] at hp2
    exact hp2
   replace HAL := qh9 (HAL.out.trans hk2.bel)
   clear hp2 hk2 B0 hP1 CT HD1
   go_wp2_with fail
   with_reducible refine (stringG w2 _ _ _ cur _ _ _ HP2.out HNE.out).mono ?_
   rintro e w3 ⟨rfl, hb3⟩
   have HF := qh9 (chain2 HW.out (HAL.out.trans hb3) (Nat.le_refl _))
   clear hb3
   go_wp2
   go_ret2
   exact ⟨rfl, HF.out⟩
 · have hx := Prod.mk.inj HV.out
   obtain ⟨hx1, hx2⟩ := hx
   subst hx1 hx2
   clear HV
   go_wp2
   go_ret2
   exact ⟨rfl, HW.out⟩
 · have hx := Prod.mk.inj HV.out
   obtain ⟨hx1, hx2⟩ := hx
   subst hx1 hx2
   clear HV
   go_wp2
   go_ret2
   exact ⟨rfl, HW.out⟩


end Go.Proofs.YtlmnjelideegnaaGreatDoor
