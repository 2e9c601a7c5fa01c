/- Raw trees as arguments: what memory reads as a tree's datum is a tree. -/
import Derived.Test.YtinjhnnpbejccaaGreatDoorG13
import Derived.Deep.Fields
import Derived.Deep.Slices
import Derived.ChangeSame
import Derived.ChangeShapes
import Derived.Carry
import Derived.OpenShut
namespace Go.Proofs.YtinjhnnpbejccaaGreatDoor
open Go Go.RowKit Go.ChangeShapes Go.WideShapes Go.Deep
set_option linter.unusedVariables false
def Has (w : World) (b : Nat) : Prop := b < w.heap.size
theorem In.has (w : World) : In (Has w) w := fun _ h => h
theorem cell_has {w : World} {a : Addr} {v : Value} (h : w.cell? a = some v) : Has w a.block ∧ a.spot = none := by
 unfold World.cell? at h
 have hlt : a.block < w.heap.size := by
  rcases Nat.lt_or_ge a.block w.heap.size with h1 | h1
  · exact h1
  · rw [Array.getElem?_eq_none h1] at h; cases h
 refine ⟨hlt, ?_⟩
 split at h
 · split at h
   · cases h
   · rename_i hs
     cases hsp : a.spot with
     | none => rfl
     | some x => rw [hsp] at hs; simp at hs
 · cases h
theorem RawsAt.of {w : World} {S : Nat → Prop} {b : Nat} : ∀ (l : List Rw) (o : Nat), (∀ i (hi : i < l.length), ∃ cs, RawAt w S l[i] cs ∧ ∀ j u, cs[j]? = some u → w.cell? ⟨b, o + i * 4 + j, none⟩ = some u) → RawsAt w S b o l
 | [], o, _ => by unfold RawsAt; trivial
 | r :: rs, o, h => by
  unfold RawsAt
  refine ⟨?_, RawsAt.of rs (o + 4) fun i hi => ?_⟩
  · obtain ⟨cs, h1, h2⟩ := h 0 (by simp)
    exact ⟨cs, h1, fun j u hj => by have := h2 j u hj; rwa [Nat.zero_mul, Nat.add_zero] at this⟩
  · obtain ⟨cs, h1, h2⟩ := h (i + 1) (by simpa using hi)
    exact ⟨cs, h1, fun j u hj => by rw [show o + 4 + i * 4 + j = o + (i + 1) * 4 + j from by omega]; exact h2 j u hj⟩

section
variable {H : Type} {enc : TypeId × Value → H} {w : World} {spare : Nat → Bool} {held : Bool}
theorem raws_of {a : Addr} {len : Nat} (h : ∀ i, i < len → ∃ cs r, w.cells? 0 (a.add (i * 4)) 4 = some cs ∧ RawAt w (Has w) r cs) :
 ∃ l : List Rw, l.length = len ∧ (0 < len → ∃ b o, a = ⟨b, o, none⟩ ∧ Has w b ∧ RawsAt w (Has w) b o l) := by
 classical
 let f : Nat → Rw := fun i => if hi : i < len then Classical.choose (Classical.choose_spec (h i hi)) else .mk 0 0 ⟨#[]⟩ []
 have hf : ∀ i, i < len → ∃ cs, w.cells? 0 (a.add (i * 4)) 4 = some cs ∧ RawAt w (Has w) (f i) cs := fun i hi => by
  have := Classical.choose_spec (Classical.choose_spec (h i hi))
  refine ⟨Classical.choose (h i hi), this.1, ?_⟩
  show RawAt w (Has w) (if hi : i < len then Classical.choose (Classical.choose_spec (h i hi)) else .mk 0 0 ⟨#[]⟩ []) _
  rw [dif_pos hi]
  exact this.2
 refine ⟨(List.range len).map f, by simp, fun h0 => ?_⟩
 obtain ⟨cs0, hc0, _⟩ := hf 0 h0
 obtain ⟨_, hl0, hat0⟩ := World.cells?_some hc0
 have hg := hat0 0 (by omega)
 rw [List.getElem?_eq_getElem (by omega)] at hg
 have ha : (a.add (0 * 4)).add 0 = a := by simp [Addr.add]
 rw [ha] at hg
 obtain ⟨hb, hs⟩ := cell_has hg
 obtain ⟨b, o, sp⟩ := a
 simp only at hs hb
 subst hs
 refine ⟨b, o, rfl, hb, RawsAt.of _ _ fun i hi => ?_⟩
 have hi' : i < len := by simpa using hi
 obtain ⟨cs, hc, hr⟩ := hf i hi'
 obtain ⟨_, hl, hat⟩ := World.cells?_some hc
 refine ⟨cs, by simpa using hr, fun j u hj => ?_⟩
 have hjl : j < 4 := by
  rcases Nat.lt_or_ge j 4 with h1 | h1
  · exact h1
  · rw [List.getElem?_eq_none (by omega)] at hj; cases hj
 have e := hat j hjl
 rw [hj, Go.Deep.add_add] at e
 have e2 : (Addr.add ⟨b, o, none⟩ (i * 4 + j)) = ⟨b, o + i * 4 + j, none⟩ := by
  unfold Addr.add
  split
  · rename_i hz; rw [show o + i * 4 + j = o by omega]
  · simp [Nat.add_assoc]
 rw [e2] at e
 exact e

theorem i64_wf {n : Int} (h : (Lit.int .i64 n).wf = true) : I64 n := bounds_i64 h

set_option maxRecDepth 100000 in
theorem open_raw : ∀ (fuel : Nat) (cs : List Value) (x : DataW H × List MemPlace), DataW.trod enc Tryz.prog w 0 spare held fuel 26 cs = some x → ∃ r, RawAt w (Has w) r cs := by
 intro fuel
 induction fuel using Nat.strongRecOn with
 | _ fuel ih =>
  intro cs x h
  obtain ⟨xs, n, rfl, hx, hlen, hxl, hf⟩ := DataW.trod_struct Tryz.underlying26 h
  have hlen' : cs.length = 4 := hlen.trans (by kernel_rfl)
  match cs, hlen' with
  | [c0, c1, c2, c3], _ =>
   have hxl' : xs.length = 4 := hxl
   match xs, hxl' with
   | [y0, y1, y2, y3], _ =>
    have k0 : Tryz.prog.cellsOf 3 = 1 := by kernel_rfl
    have k2 : Tryz.prog.cellsOf 9 = 1 := by kernel_rfl
    have k3 : Tryz.prog.cellsOf 24 = 1 := by kernel_rfl
    have f0 : DataW.trod enc Tryz.prog w 0 spare held n 3 (([c0, c1, c2, c3].drop 0).take (Tryz.prog.cellsOf 3)) = some y0 := hf 0 _ rfl
    have f1 : DataW.trod enc Tryz.prog w 0 spare held n 3 (([c0, c1, c2, c3].drop 1).take (Tryz.prog.cellsOf 3)) = some y1 := hf 1 _ rfl
    have f2 : DataW.trod enc Tryz.prog w 0 spare held n 9 (([c0, c1, c2, c3].drop 2).take (Tryz.prog.cellsOf 9)) = some y2 := hf 2 _ rfl
    have f3 : DataW.trod enc Tryz.prog w 0 spare held n 24 (([c0, c1, c2, c3].drop 3).take (Tryz.prog.cellsOf 24)) = some y3 := hf 3 _ rfl
    rw [k0] at f0 f1
    rw [k2] at f2
    rw [k3] at f3
    obtain ⟨k, e0, _, w0⟩ := DataW.trod_int Tryz.underlying3 (show DataW.trod enc Tryz.prog w 0 spare held n 3 [c0] = some y0 from f0)
    obtain ⟨m, e1, _, w1⟩ := DataW.trod_int Tryz.underlying3 (show DataW.trod enc Tryz.prog w 0 spare held n 3 [c1] = some y1 from f1)
    obtain ⟨s, e2, _, w2⟩ := DataW.trod_string Tryz.underlying9 (show DataW.trod enc Tryz.prog w 0 spare held n 9 [c2] = some y2 from f2)
    injection e0 with e0
    injection e1 with e1
    injection e2 with e2
    subst e0 e1 e2
    have f3' : DataW.trod enc Tryz.prog w 0 spare held n 24 [c3] = some y3 := f3
    rcases DataW.trod_slice Tryz.underlying24 f3' with ⟨e3, _⟩ | ⟨a, len, cap, elems, rest, n', hn, e3, _, _, hlc, hcm, hel, hat, _, _⟩
    · injection e3 with e3
      subst e3
      refine ⟨.mk k m s [], ?_⟩
      unfold RawAt
      exact ⟨none, 0, rfl, i64_wf w0, i64_wf w1, Nat.le_refl _, Nat.zero_le _, fun h => by simp at h⟩
    · injection e3 with e3
      subst e3
      have hC : Tryz.prog.cellsOf 26 = 4 := by kernel_rfl
      rw [hC] at hat
      have hall : ∀ i, i < len → ∃ cs r, w.cells? 0 (a.add (i * 4)) 4 = some cs ∧ RawAt w (Has w) r cs := fun i hi => by
       have e := hat i hi
       rw [List.getElem?_eq_getElem (by omega)] at e
       obtain ⟨cs', h1, h2⟩ := Option.bind_eq_some_iff.1 e
       obtain ⟨r, hr⟩ := ih n' (by omega) cs' _ h2
       exact ⟨cs', r, h1, hr⟩
      obtain ⟨l, hl, hA⟩ := raws_of hall
      refine ⟨.mk k m s l, ?_⟩
      unfold RawAt
      refine ⟨some a, cap, by rw [hl], i64_wf w0, i64_wf w1, by omega, hcm, fun h0 => ?_⟩
      obtain ⟨b, o, e, hb, hr⟩ := hA (by omega)
      exact ⟨b, o, by rw [e], hb, hr⟩
set_option maxRecDepth 100000 in
theorem open_rawv {r : Reach} {b0 : Nat} {v : Value} {d : DataW H} {p : List MemPlace} (hv : Value.okWide Tryz.prog w r b0 26 v) (h : DataW.Trod enc Tryz.prog w 0 spare held 26 v d p) :
 ∃ (t : Rw) (cs : List Value), v = .agg cs.toArray ∧ RawAt w (Has w) t cs := by
 obtain ⟨cs, rfl, _⟩ := okWide_struct Tryz.underlying26 hv
 obtain ⟨fuel, hf⟩ := h
 obtain ⟨t, ht⟩ := open_raw fuel _ _ hf
 exact ⟨t, cs.toList, by simp, ht⟩
set_option maxRecDepth 100000 in
theorem open_raw4 {rc : Reach} {b0 : Nat} {v : Value} {d : DataW H} {p : List MemPlace} (hv : Value.okWide Tryz.prog w rc b0 26 v) (h : DataW.Trod enc Tryz.prog w 0 spare held 26 v d p) :
 ∃ (t : Rw) (z0 z1 z2 z3 : Value), v = .agg #[z0, z1, z2, z3] ∧ RawAt w (Has w) t [z0, z1, z2, z3] := by
 obtain ⟨t, cs, rfl, ht⟩ := open_rawv hv h
 cases t with
 | mk k n s l =>
  have ht' := ht
  unfold RawAt at ht'
  obtain ⟨A, c, rfl, _⟩ := ht'
  exact ⟨_, _, _, _, _, rfl, ht⟩
end
end Go.Proofs.YtinjhnnpbejccaaGreatDoor
