/- Which symbols are valid: the program and the reference. -/
import Derived.Test.YtcgchacokcnacaaDoorY2
namespace Go.Proofs.YtcgchacokcnacaaDoor
open Go Go.RowKit
set_option linter.unusedVariables false

/-- Block g holds the object that a symbol is. -/
def SyO (W : World) (g : Nat) (p n : ByteArray) : Prop := W.heap[g]? = some (.cells #[.int .i64 2, .string ⟨#[]⟩, .string ⟨#[]⟩, .string p, .string n, .string ⟨#[]⟩, .slice none 0 0] 59 (0, 0))
theorem blk_ltY {W : World} {g : Nat} {o : Obj} (h : W.heap[g]? = some o) : g < W.heap.size := by
  rcases Nat.lt_or_ge g W.heap.size with hlt | hge
  · exact hlt
  · rw [Array.getElem?_eq_none hge] at h; cases h
theorem SyO.c {W : World} {g : Nat} {p n : ByteArray} (h : SyO W g p n) : W.cell? ⟨g, 0, none⟩ = some (.int .i64 2) ∧ W.cell? ⟨g, 1, none⟩ = some (.string ⟨#[]⟩) ∧ W.cell? ⟨g, 2, none⟩ = some (.string ⟨#[]⟩) ∧ W.cell? ⟨g, 3, none⟩ = some (.string p) ∧ W.cell? ⟨g, 4, none⟩ = some (.string n) ∧ W.cell? ⟨g, 5, none⟩ = some (.string ⟨#[]⟩) ∧ W.cell? ⟨g, 6, none⟩ = some (.slice none 0 0) := by
  refine ⟨?_, ?_, ?_, ?_, ?_, ?_, ?_⟩ <;> (rw [cell_of_row _ _ _ _ _ _ h]; rfl)
theorem SyO.keep {W W' : World} {g : Nat} {p n : ByteArray} (h : SyO W g p n) (hb : Below W.heap.size W W') : SyO W' g p n := (hb.block g (blk_ltY h)).trans h
def QuietY (w : World) (v : Value) (e : Ending) (w' : World) : Prop := e = .returned v ∧ ∃ n, w' = w.drewN n
theorem QuietY.below {w w' : World} {v : Value} {e : Ending} (h : QuietY w v e w') : RetY w v e w' := by
  obtain ⟨h1, n, rfl⟩ := h
  exact ⟨h1, rfl, rfl, rfl, Nat.le_refl _, fun _ _ => rfl⟩
set_option maxHeartbeats 4000000 in
set_option maxRecDepth 100000 in
theorem symbolY (p n : ByteArray) (w : World) : Calls Tryd.prog 26 #[.agg #[.string p, .string n]] w (RetY w (.agg #[.int .i64 2, .string ⟨#[]⟩, .string ⟨#[]⟩, .string p, .string n, .string ⟨#[]⟩, .slice none 0 0])) := by
  go_enter Tryd.func26, Tryd.ntmps26
  go_wp2_with fail
  refine bodyPost_ret (results_cell_row rfl _ _ (w.heap.size + 1) 59 #[.int .i64 2, .string ⟨#[]⟩, .string ⟨#[]⟩, .string p, .string n, .string ⟨#[]⟩, .slice none 0 0] (0, 0) _ rfl ?_ Tryd.underlying59 rfl (by kernel_rfl)) rfl ⟨rfl, ?_⟩
  · have := heap_alloc_new (w.alloc (.cells #[.string p, .string n] 29)) (.cells #[.int .i64 2, .string ⟨#[]⟩, .string ⟨#[]⟩, .string p, .string n, .string ⟨#[]⟩, .slice none 0 0] 59)
    have s : (w.alloc (.cells #[.string p, .string n] 29)).heap.size = w.heap.size + 1 := by simp
    rw [s] at this
    exact this
  · exact Below.alloc (Below.alloc (Below.refl _ _) (Nat.le_refl _) _) (by simp) _
set_option maxHeartbeats 4000000 in
set_option maxRecDepth 100000 in
theorem sameY (b b' : Nat) (w : World) (p n : ByteArray) (h : SyO w b p n) (h' : SyO w b' p n) :
    Calls Tryd.prog 41 #[.pointer (some ⟨b, 0, none⟩), .pointer (some ⟨b', 0, none⟩)] w (QuietY w (.bool true)) := by
  obtain ⟨l0, l1, l2, l3, l4, l5, l6⟩ := h.c
  obtain ⟨m0, m1, m2, m3, m4, m5, m6⟩ := h'.c
  clear h h' l6 m6
  go_enter Tryd.func41, Tryd.ntmps41
  go_wp2_with fail
  go_quiet (fail)
  go_wp2
  go_ret
  exact ⟨rfl, _, rfl⟩
set_option maxHeartbeats 4000000 in
set_option maxRecDepth 100000 in
theorem hasOnlyY (b : Nat) (w : World) (p n : ByteArray) (h : SyO w b p n) :
    Calls Tryd.prog 37 #[.pointer (some ⟨b, 0, none⟩), .agg #[.int .i64 0, .string ⟨#[]⟩, .string ⟨#[]⟩, .string p, .string n, .string ⟨#[]⟩, .slice none 0 0]] w (RetY w (.bool true)) := by
  have hlt := blk_ltY h
  have hne : ¬ b = w.heap.size := by omega
  have hb0 := Below.alloc (Below.refl w.heap.size w) (Nat.le_refl _) (.cells #[.int .i64 2, .string ⟨#[]⟩, .string ⟨#[]⟩, .string p, .string n, .string ⟨#[]⟩, .slice none 0 0] 59)
  have hg0 : SyO (w.alloc (.cells #[.int .i64 2, .string ⟨#[]⟩, .string ⟨#[]⟩, .string p, .string n, .string ⟨#[]⟩, .slice none 0 0] 59)) w.heap.size p n := heap_alloc_new w _
  have hk0 := h.keep hb0
  obtain ⟨l0, l1, l2, l3, l4, l5, l6⟩ := h.c
  clear h
  go_enter Tryd.func37, Tryd.ntmps37
  go_wp2_with fail
  generalize w.alloc (.cells #[.int .i64 2, .string ⟨#[]⟩, .string ⟨#[]⟩, .string p, .string n, .string ⟨#[]⟩, .slice none 0 0] 59) = W at hb0 hg0 hk0 ⊢
  clear l0 l1 l2 l3 l4 l5 l6
  obtain ⟨g0, g1, g2, g3, g4, g5, g6⟩ := hg0.c
  obtain ⟨k0, k1, k2, k3, k4, k5, k6⟩ := hk0.c
  have C : Hid (∀ m, Calls Tryd.prog 41 #[.pointer (some ⟨b, 0, none⟩), .pointer (some ⟨w.heap.size, 0, none⟩)] (W.drewN m) (QuietY (W.drewN m) (.bool true))) := fun m => sameY b w.heap.size (W.drewN m) p n (by unfold SyO at hk0 ⊢; simpa using hk0) (by unfold SyO at hg0 ⊢; simpa using hg0)
  have HB := Lib.hid hb0
  clear hg0 hk0 hb0 k0 k1 k2 k3 k4 k5 g0 g1 g2 g3 g4 g5
  go_quiet ((go_at_call 41; exact Calls.quiet_of (C.out _)))
  go_wp2
  go_ret
  exact ⟨rfl, HB.out.trans (⟨rfl, rfl, rfl, Nat.le_refl _, fun _ _ => rfl⟩ : Below w.heap.size W (W.drewN nq))⟩
set_option maxHeartbeats 4000000 in
set_option maxRecDepth 100000 in
theorem countY (b : Nat) (w : World) (p n : ByteArray) (h : SyO w b p n) :
    Calls Tryd.prog 36 #[.pointer (some ⟨b, 0, none⟩), .int .i64 0] w (fun e w' => e = .returned (.int .i64 1) ∧ w = w') := by
  obtain ⟨l0, l1, l2, l3, l4, l5, l6⟩ := h.c
  clear h l0 l1 l2 l3 l4 l5
  go_enter Tryd.func36, Tryd.ntmps36
  go_wp2_with fail
  go_loop [0, 1] (fun u v => u = .pointer (some ⟨b, 0, none⟩) ∧ v = .int .i64 0) (fun _ v => 1 - (intOf v).toNat)
  case atStart => exact ⟨rfl, rfl⟩
  case round =>
    obtain ⟨rfl, rfl⟩ := hrel
    go_wp2
    go_ret
    exact ⟨rfl, rfl⟩
set_option maxHeartbeats 4000000 in
set_option maxRecDepth 100000 in
theorem nodesY (p n : ByteArray) (w : World) :
    Calls Tryd.prog 32 #[.agg #[.int .i64 2, .string ⟨#[]⟩, .string ⟨#[]⟩, .string p, .string n, .string ⟨#[]⟩, .slice none 0 0]] w (RetY w (.int .i64 1)) := by
  have hb0 := Lib.hid (Below.alloc (Below.refl w.heap.size w) (Nat.le_refl _) (.cells #[.int .i64 2, .string ⟨#[]⟩, .string ⟨#[]⟩, .string p, .string n, .string ⟨#[]⟩, .slice none 0 0] 59))
  have hg0 : Hid (SyO (w.alloc (.cells #[.int .i64 2, .string ⟨#[]⟩, .string ⟨#[]⟩, .string p, .string n, .string ⟨#[]⟩, .slice none 0 0] 59)) w.heap.size p n) := heap_alloc_new w _
  go_enter Tryd.func32, Tryd.ntmps32
  go_wp2_with fail
  generalize w.alloc (.cells #[.int .i64 2, .string ⟨#[]⟩, .string ⟨#[]⟩, .string p, .string n, .string ⟨#[]⟩, .slice none 0 0] 59) = W at hb0 hg0 ⊢
  refine (countY _ W p n hg0.out).mono ?_
  rintro e w' ⟨rfl, rfl⟩
  go_wp2
  go_ret
  exact ⟨rfl, hb0.out⟩
set_option maxHeartbeats 4000000 in
set_option maxRecDepth 100000 in
theorem wellY (b : Nat) (w : World) (p n : ByteArray) (h : SyO w b p n) :
    Calls Tryd.prog 33 #[.pointer (some ⟨b, 0, none⟩)] w (RetY w (.bool (pkgOk p && nameOk n))) := by
  obtain ⟨l0, l1, l2, l3, l4, l5, l6⟩ := h.c
  have HO := Lib.hid (hasOnlyY b w p n h)
  have HC : Hid (∀ wd, Below w.heap.size w wd → wd.cell? ⟨b, 3, none⟩ = some (.string p) ∧ wd.cell? ⟨b, 4, none⟩ = some (.string n)) := fun wd hb => ⟨(h.keep hb).c.2.2.2.1, (h.keep hb).c.2.2.2.2.1⟩
  clear h l1 l2 l5 l6
  go_enter Tryd.func33, Tryd.ntmps33
  go_wp2_with fail
  refine HO.out.mono ?_
  rintro e w1 ⟨rfl, hb1⟩
  obtain ⟨j3, j4⟩ := HC.out _ hb1
  have HB := Lib.hid hb1
  clear hb1 l0 l3 l4
  go_wp2_with fail
  refine (isPackageY p _).mono ?_
  rintro e w2 ⟨rfl, rfl⟩
  cases hp : pkgOk p with
  | false =>
    go_wp2
    go_ret
    exact ⟨ret_boolY (by rw [hp]; rfl), HB.out⟩
  | true =>
    go_wp2_with fail
    refine (isNameY n _).mono ?_
    rintro e w2 ⟨rfl, rfl⟩
    go_wp2
    go_ret
    exact ⟨ret_boolY (by rw [hp]; rfl), HB.out⟩
set_option maxHeartbeats 4000000 in
set_option maxRecDepth 100000 in
theorem validOY (p n : ByteArray) (w : World) :
    Calls Tryd.prog 25 #[.agg #[.int .i64 2, .string ⟨#[]⟩, .string ⟨#[]⟩, .string p, .string n, .string ⟨#[]⟩, .slice none 0 0]] w (RetY w (.bool (pkgOk p && nameOk n))) := by
  have hb0 := Lib.hid (Below.alloc (Below.refl w.heap.size w) (Nat.le_refl _) (.cells #[.int .i64 2, .string ⟨#[]⟩, .string ⟨#[]⟩, .string p, .string n, .string ⟨#[]⟩, .slice none 0 0] 59))
  have hg0 : Hid (SyO (w.alloc (.cells #[.int .i64 2, .string ⟨#[]⟩, .string ⟨#[]⟩, .string p, .string n, .string ⟨#[]⟩, .slice none 0 0] 59)) w.heap.size p n) := heap_alloc_new w _
  go_enter Tryd.func25, Tryd.ntmps25
  go_wp2_with fail
  generalize w.alloc (.cells #[.int .i64 2, .string ⟨#[]⟩, .string ⟨#[]⟩, .string p, .string n, .string ⟨#[]⟩, .slice none 0 0] 59) = W at hb0 hg0 ⊢
  obtain ⟨l0, l1, l2, l3, l4, l5, l6⟩ := hg0.out.c
  go_wp2_with fail
  refine (nodesY p n _).mono ?_
  rintro e w1 ⟨rfl, hb⟩
  have HG := Lib.hid (hg0.out.keep hb)
  have HB := Lib.hid (chainY hb0.out hb (Nat.le_refl _))
  clear l0 l1 l2 l3 l4 l5 l6 hb
  go_wp2_with fail
  refine (wellY _ _ p n HG.out).mono ?_
  rintro e w2 ⟨rfl, hb⟩
  have HB2 := Lib.hid (chainY HB.out hb (Nat.le_refl _))
  clear hb
  go_wp2
  go_ret
  exact ⟨rfl, HB2.out⟩
/-- Whether a symbol is one of a valid object. -/
def symOk (p n : ByteArray) : Bool := pkgOk p && nameOk n
set_option maxHeartbeats 4000000 in
set_option maxRecDepth 100000 in
theorem validSY (p n : ByteArray) (w : World) : Calls Tryd.prog 20 #[.agg #[.string p, .string n]] w (RetY w (.bool (symOk p n))) := by
  have hb0 := Lib.hid (Below.alloc (Below.refl w.heap.size w) (Nat.le_refl _) (.cells #[.string p, .string n] 29))
  go_enter Tryd.func20, Tryd.ntmps20
  go_wp2_with fail
  generalize w.alloc (.cells #[.string p, .string n] 29) = W at hb0 ⊢
  refine (symbolY p n _).mono ?_
  rintro e w1 ⟨rfl, hb⟩
  have HB := Lib.hid (chainY hb0.out hb (Nat.le_refl _))
  clear hb
  go_wp2_with fail
  refine (validOY p n _).mono ?_
  rintro e w2 ⟨rfl, hb⟩
  have HB2 := Lib.hid (chainY HB.out hb (Nat.le_refl _))
  clear hb
  go_wp2
  go_ret
  exact ⟨rfl, HB2.out⟩
set_option maxHeartbeats 4000000 in
set_option maxRecDepth 100000 in
theorem validPY (p : ByteArray) (w : World) : Calls Tryd.prog 17 #[.string p] w (RetY w (.bool (pkgOk p))) := by
  go_enter Tryd.func17, Tryd.ntmps17
  go_wp2_with fail
  refine (validSY p ⟨#[120]⟩ _).mono ?_
  rintro e w1 ⟨rfl, hb⟩
  have HB := Lib.hid hb
  clear hb
  have hx : symOk p ⟨#[120]⟩ = pkgOk p := by unfold symOk; rw [show nameOk ⟨#[120]⟩ = true from by decide, Bool.and_true]
  rw [hx]
  clear hx
  go_wp2
  go_ret
  exact ⟨rfl, HB.out⟩
end Go.Proofs.YtcgchacokcnacaaDoor
