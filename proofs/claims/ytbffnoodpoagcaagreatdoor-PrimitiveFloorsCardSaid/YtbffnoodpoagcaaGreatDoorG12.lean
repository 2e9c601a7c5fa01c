/- The maker's Few and part. -/
import Derived.Test.YtbffnoodpoagcaaGreatDoorG11
namespace Go.Proofs.YtbffnoodpoagcaaGreatDoor
open Go Go.RowKit
set_option linter.unusedVariables false
theorem leftO : ∀ (r : Rw) (cs : List Value) (m : Int) (w : World) (S : Nat → Prop), In S w → RawAt w S r cs → 0 ≤ m → m ≤ 1000 →
 Calls Tryz.prog 43 #[.agg cs.toArray, .int .i64 m] w (RetI w (leftV r m)) := by
 intro r
 induction r using Rw.ind with
 | h k n s l ih =>
  intro cs m w S hS h hm hm'
  unfold RawAt at h
  obtain ⟨A, c, rfl, hk, hn, hc, hc', hA⟩ := h
  exact leftCore k n s l A c m w S hS hc hm hm' hA (fun r hr cs m w hS h hm hm' => ih r hr cs m w S hS h hm hm')

def few (r : Rw) (m : Int) : Bool := decide (0 ≤ leftV r m)
set_option maxHeartbeats 1000000 in
theorem fewO (r : Rw) (cs : List Value) (m : Int) (w : World) (S : Nat → Prop) (hS : In S w) (h : RawAt w S r cs) (hm : 0 ≤ m) (hm' : m ≤ 1000) :
 Calls Tryz.prog 23 #[.agg cs.toArray, .int .i64 m] w (fun e w' => e = .returned (.bool (few r m)) ∧ Below w.heap.size w w') := by
 cases r with
 | mk k n s l =>
  have h' := h
  unfold RawAt at h
  obtain ⟨A, c, rfl, _⟩ := h
  have hb0 : Below w.heap.size w (w.alloc (.cells #[.int .i64 k, .int .i64 n, .string s, .slice A l.length c] 49)) := Below.alloc (Below.refl _ _) (Nat.le_refl _) _
  have call := Lib.hid (leftO _ _ m _ S (hS.later hb0.size) (h'.below hS hb0) hm hm')
  clear h'
  go_enter Tryz.func23, Tryz.ntmps23
  go_wp2_with fail
  refine call.out.mono ?_
  rintro e w3 ⟨rfl, hb3⟩
  have hbx := Lib.hid (hb0.trans (hb3.mono hb0.size))
  clear hb3 hb0 call
  go_wp2
  go_ret
  exact ⟨rfl, hbx.out⟩

def partV : Rw → Nat → Rw
 | .mk _ _ _ l, i => l.getD i (.mk 0 0 ⟨#[]⟩ [])
def RetR (w : World) (S : Nat → Prop) (r : Rw) (e : Ending) (w' : World) : Prop := ∃ cs, e = .returned (.agg cs.toArray) ∧ RawAt w' S r cs ∧ Below w.heap.size w w'
theorem raw_none (w : World) (S : Nat → Prop) : RawAt w S (.mk 0 0 ⟨#[]⟩ []) [.int .i64 0, .int .i64 0, .string ⟨#[]⟩, .slice none 0 0] := by
 unfold RawAt
 exact ⟨none, 0, rfl, by unfold I64; omega, by unfold I64; omega, Nat.le_refl _, Nat.zero_le _, fun h => by simp at h⟩
theorem retR {fn : Func} {q : Tmp} {w0 : World} {S : Nat → Prop} {tmps : Array Value} {w : World} {g : Nat} {r : Rw} {z0 z1 z2 z3 : Value} {t : TypeId} {fr : Nat × Nat}
 (h : fn.results = #[.cell q 49]) (hq : tmps.getD q undef = .pointer (some ⟨g, 0, none⟩)) (hg : w.heap[g]? = some (.cells #[z0, z1, z2, z3] t fr))
 (hr : RawAt w S r [z0, z1, z2, z3]) (hb : Below w0.heap.size w0 w) : bodyPost Tryz.prog fn (RetR w0 S r) Exit.ret ⟨tmps, []⟩ w :=
 bodyPost_ret (results_cell_row h tmps _ g t _ fr _ hq hg Tryz.underlying49 rfl (by kernel_rfl)) rfl ⟨_, rfl, hr, hb⟩

set_option maxHeartbeats 1000000 in
theorem partO (r : Rw) (cs : List Value) (i : Nat) (w : World) (S : Nat → Prop) (hS : In S w) (h : RawAt w S r cs) (hi : i ≤ 10) :
 Calls Tryz.prog 48 #[.agg cs.toArray, .int .i64 i] w (RetR w S (partV r i)) := by
 cases r with
 | mk k n s l =>
  unfold RawAt at h
  obtain ⟨A, c, rfl, hk, hn, hc, hc', hA⟩ := h
  obtain ⟨L, hL⟩ : ∃ L, l.length = L := ⟨_, rfl⟩
  have HL := Lib.hid hL
  rw [hL] at hc hA ⊢
  clear hL
  have HA := Lib.hid hA
  clear hA
  by_cases hiL : i < L
  · obtain ⟨b, o, rfl, hb, hrs⟩ := HA.out (by omega)
    have hil : i < l.length := by rw [HL.out]; exact hiL
    obtain ⟨cs, hcs, hcell⟩ := hrs.get hil
    have hp : partV (.mk k n s l) i = l[i] := by show l.getD i _ = _; rw [List.getD_eq_getElem?_getD, List.getElem?_eq_getElem hil]; rfl
    rw [hp]
    clear hp
    have hbl := hS b hb
    have HC := Lib.hid hcs
    clear hrs
    generalize l[i] = r at hcs HC ⊢
    cases r with
    | mk k' n' s' l' =>
     unfold RawAt at hcs
     obtain ⟨A', c', rfl, _⟩ := hcs
     have l0 := hcell 0 _ rfl
     have l1 := hcell 1 _ rfl
     have l2 := hcell 2 _ rfl
     have l3 := hcell 3 _ rfl
     rw [Nat.add_zero] at l0
     clear hcell
     go_enter Tryz.func48, Tryz.ntmps48
     go_wp2_with fail
     have hbb : Below w.heap.size w ((w.alloc (.cells #[.int .i64 k, .int .i64 n, .string s, .slice (some ⟨b, o, none⟩) L c] 49)).alloc (.cells #[.int .i64 k', .int .i64 n', .string s', .slice A' l'.length c'] 49)) := Below.alloc (Below.alloc (Below.refl _ _) (Nat.le_refl _) _) (by simp) _
     exact retR rfl rfl (heap_alloc2_new w _ _) (HC.out.below hS hbb) hbb
  · have hp : partV (.mk k n s l) i = .mk 0 0 ⟨#[]⟩ [] := by
     show l.getD i _ = _
     rw [List.getD_eq_getElem?_getD, List.getElem?_eq_none (by rw [HL.out]; omega)]
     rfl
    rw [hp]
    clear hp
    go_enter Tryz.func48, Tryz.ntmps48
    go_wp2_with fail
    have hbb : Below w.heap.size w ((w.alloc (.cells #[.int .i64 k, .int .i64 n, .string s, .slice A L c] 49)).alloc (.cells #[.int .i64 0, .int .i64 0, .string ⟨#[]⟩, .slice none 0 0] 49)) := Below.alloc (Below.alloc (Below.refl _ _) (Nat.le_refl _) _) (by simp) _
    exact retR rfl rfl (heap_alloc2_new w _ _) (raw_none _ S) hbb
end Go.Proofs.YtbffnoodpoagcaaGreatDoor
