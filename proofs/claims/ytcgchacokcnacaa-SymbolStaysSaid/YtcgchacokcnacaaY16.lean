/- Symbols, packages and slices of packages as arguments. -/
import Derived.Test.YtcgchacokcnacaaY15
import Derived.Deep.Fields
import Derived.Deep.Slices
import Derived.ChangeSame
import Derived.ChangeShapes
import Derived.Carry
import Derived.OpenShut
namespace Go.Proofs.Ytcgchacokcnacaa
open Go Go.RowKit
set_option linter.unusedVariables false

open Go.ChangeShapes Go.WideShapes Go.Deep
theorem cell_hasY {w : World} {a : Addr} {v : Value} (h : w.cell? a = some v) : a.block < w.heap.size ∧ a.spot = none := by
  unfold World.cell? at h
  have hlt : a.block < w.heap.size := by
    rcases Nat.lt_or_ge a.block w.heap.size with h1 | h1
    · exact h1
    · rw [Array.getElem?_eq_none h1] at h; cases h
  refine ⟨hlt, ?_⟩
  split at h
  · split at h
    · cases h
    · rename_i hs
      cases hsp : a.spot with
      | none => rfl
      | some x => rw [hsp] at hs; simp at hs
  · cases h
theorem pair_list {cs : List Value} (h : cs.length = 2) : ∃ x y, cs = [x, y] := by
  match cs, h with
  | [x, y], _ => exact ⟨x, y, rfl⟩
/-- The elements of a slice, two cells each. -/
theorem elems2 {α : Type} {w : World} {a : Addr} {len : Nat} (dflt : α) (E : α → Value → Value → Prop) (h : ∀ i, i < len → ∃ x y r, w.cells? 0 (a.add (i * 2)) 2 = some [x, y] ∧ E r x y) :
    ∃ l : List α, l.length = len ∧ (0 < len → ∃ b o, a = ⟨b, o, none⟩ ∧ b < w.heap.size ∧ ∀ i (hi : i < l.length), ∃ x y, w.cell? ⟨b, o + i * 2, none⟩ = some x ∧ w.cell? ⟨b, o + i * 2 + 1, none⟩ = some y ∧ E l[i] x y) := by
  classical
  have h' : ∀ i, ∃ r, i < len → ∃ x y, w.cells? 0 (a.add (i * 2)) 2 = some [x, y] ∧ E r x y := fun i => by
    by_cases hi : i < len
    · obtain ⟨x, y, r, h1, h2⟩ := h i hi
      exact ⟨r, fun _ => ⟨x, y, h1, h2⟩⟩
    · exact ⟨dflt, fun h => absurd h hi⟩
  let f : Nat → α := fun i => Classical.choose (h' i)
  have hf : ∀ i, i < len → ∃ x y, w.cells? 0 (a.add (i * 2)) 2 = some [x, y] ∧ E (f i) x y := fun i hi => Classical.choose_spec (h' i) hi
  refine ⟨(List.range len).map f, by simp, fun h0 => ?_⟩
  have cell : ∀ i, i < len → ∃ x y, w.cell? (a.add (i * 2)) = some x ∧ w.cell? (a.add (i * 2 + 1)) = some y ∧ E (f i) x y := fun i hi => by
    obtain ⟨x, y, h1, h2⟩ := hf i hi
    obtain ⟨_, _, hat⟩ := World.cells?_some h1
    have e0 := hat 0 (by omega)
    have e1 := hat 1 (by omega)
    rw [Go.Deep.add_add] at e0 e1
    exact ⟨x, y, by simpa using e0, by simpa using e1, h2⟩
  obtain ⟨x0, y0, hc0, _, _⟩ := cell 0 h0
  have ha : a.add (0 * 2) = a := by simp [Addr.add]
  rw [ha] at hc0
  obtain ⟨hb, hs⟩ := cell_hasY hc0
  obtain ⟨b, o, sp⟩ := a
  simp only at hs hb
  subst hs
  refine ⟨b, o, rfl, hb, fun i hi => ?_⟩
  have hi' : i < len := by simpa using hi
  obtain ⟨x, y, h1, h2, h3⟩ := cell i hi'
  rw [add_midY] at h1 h2
  exact ⟨x, y, h1, by rw [show o + i * 2 + 1 = o + (i * 2 + 1) from by omega]; exact h2, by simpa using h3⟩
section
variable {H : Type} {enc : TypeId × Value → H} {w : World} {spare : Nat → Bool} {held : Bool}
set_option maxRecDepth 100000 in
theorem open_symc (fuel : Nat) (cs : List Value) (x : DataW H × List MemPlace) (h : DataW.trod enc Try.prog w 0 spare held fuel 23 cs = some x) : ∃ s : Sy, cs = [.string s.1, .string s.2] := by
  obtain ⟨xs, n, rfl, hx, hlen, hxl, hf⟩ := DataW.trod_struct Try.underlying23 h
  have hlen' : cs.length = 2 := hlen.trans (by kernel_rfl)
  obtain ⟨c0, c1, rfl⟩ := pair_list hlen'
  have hxl' : xs.length = 2 := hxl
  match xs, hxl' with
  | [y0, y1], _ =>
    have k0 : Try.prog.cellsOf 9 = 1 := by kernel_rfl
    have f0 : DataW.trod enc Try.prog w 0 spare held n 9 (([c0, c1].drop 0).take (Try.prog.cellsOf 9)) = some y0 := hf 0 _ rfl
    have f1 : DataW.trod enc Try.prog w 0 spare held n 9 (([c0, c1].drop 1).take (Try.prog.cellsOf 9)) = some y1 := hf 1 _ rfl
    rw [k0] at f0 f1
    obtain ⟨s1, e0, _, _⟩ := DataW.trod_string Try.underlying9 (show DataW.trod enc Try.prog w 0 spare held n 9 [c0] = some y0 from f0)
    obtain ⟨s2, e1, _, _⟩ := DataW.trod_string Try.underlying9 (show DataW.trod enc Try.prog w 0 spare held n 9 [c1] = some y1 from f1)
    injection e0 with e0
    injection e1 with e1
    subst e0 e1
    exact ⟨(s1, s2), rfl⟩
set_option maxRecDepth 100000 in
theorem open_symsc (fuel : Nat) (c : Value) (x : DataW H × List MemPlace) (h : DataW.trod enc Try.prog w 0 spare held fuel 31 [c] = some x) : ∃ q : List Sy, SyV w q c := by
  rcases DataW.trod_slice Try.underlying31 h with ⟨e3, _⟩ | ⟨a, len, cap, elems, rest, n', hn, e3, _, _, hlc, hcm, hel, hat, _, _⟩
  · injection e3 with e3
    subst e3
    exact ⟨[], SyV.nil _⟩
  · injection e3 with e3
    subst e3
    have hC : Try.prog.cellsOf 23 = 2 := by kernel_rfl
    rw [hC] at hat
    have hall : ∀ i, i < len → ∃ x y r, w.cells? 0 (a.add (i * 2)) 2 = some [x, y] ∧ (fun (s : Sy) x y => x = Value.string s.1 ∧ y = .string s.2) r x y := fun i hi => by
      have e := hat i hi
      rw [List.getElem?_eq_getElem (by omega)] at e
      obtain ⟨cs', h1, h2⟩ := Option.bind_eq_some_iff.1 e
      obtain ⟨s, rfl⟩ := open_symc n' cs' _ h2
      exact ⟨_, _, s, h1, rfl, rfl⟩
    obtain ⟨l, hl, hA⟩ := elems2 (⟨⟨#[]⟩, ⟨#[]⟩⟩ : Sy) _ hall
    refine ⟨l, some a, cap, by rw [hl], by omega, hcm, fun h0 => ?_⟩
    obtain ⟨b, o, e, hb, hr⟩ := hA (by omega)
    refine ⟨b, o, by rw [e], hb, fun i hi => ?_⟩
    obtain ⟨x, y, h1, h2, rfl, rfl⟩ := hr i hi
    exact ⟨h1, h2⟩
set_option maxRecDepth 100000 in
theorem open_pkgc (fuel : Nat) (cs : List Value) (x : DataW H × List MemPlace) (h : DataW.trod enc Try.prog w 0 spare held fuel 33 cs = some x) : ∃ (p : Pg) (u : Value), cs = [.string p.1, u] ∧ SyV w p.2 u := by
  obtain ⟨xs, n, rfl, hx, hlen, hxl, hf⟩ := DataW.trod_struct Try.underlying33 h
  have hlen' : cs.length = 2 := hlen.trans (by kernel_rfl)
  obtain ⟨c0, c1, rfl⟩ := pair_list hlen'
  have hxl' : xs.length = 2 := hxl
  match xs, hxl' with
  | [y0, y1], _ =>
    have k0 : Try.prog.cellsOf 9 = 1 := by kernel_rfl
    have k1 : Try.prog.cellsOf 31 = 1 := by kernel_rfl
    have f0 : DataW.trod enc Try.prog w 0 spare held n 9 (([c0, c1].drop 0).take (Try.prog.cellsOf 9)) = some y0 := hf 0 _ rfl
    have f1 : DataW.trod enc Try.prog w 0 spare held n 31 (([c0, c1].drop 1).take (Try.prog.cellsOf 31)) = some y1 := hf 1 _ rfl
    rw [k0] at f0
    rw [k1] at f1
    obtain ⟨s1, e0, _, _⟩ := DataW.trod_string Try.underlying9 (show DataW.trod enc Try.prog w 0 spare held n 9 [c0] = some y0 from f0)
    obtain ⟨q, hq⟩ := open_symsc n c1 y1 f1
    injection e0 with e0
    subst e0
    exact ⟨(s1, q), c1, rfl, hq⟩
set_option maxRecDepth 100000 in
theorem open_pkgsc (fuel : Nat) (c : Value) (x : DataW H × List MemPlace) (h : DataW.trod enc Try.prog w 0 spare held fuel 28 [c] = some x) : ∃ l : List Pg, PgV w l c := by
  rcases DataW.trod_slice Try.underlying28 h with ⟨e3, _⟩ | ⟨a, len, cap, elems, rest, n', hn, e3, _, _, hlc, hcm, hel, hat, _, _⟩
  · injection e3 with e3
    subst e3
    exact ⟨[], PgV.nil _⟩
  · injection e3 with e3
    subst e3
    have hC : Try.prog.cellsOf 33 = 2 := by kernel_rfl
    rw [hC] at hat
    have hall : ∀ i, i < len → ∃ x y r, w.cells? 0 (a.add (i * 2)) 2 = some [x, y] ∧ (fun (p : Pg) x y => x = Value.string p.1 ∧ SyV w p.2 y) r x y := fun i hi => by
      have e := hat i hi
      rw [List.getElem?_eq_getElem (by omega)] at e
      obtain ⟨cs', h1, h2⟩ := Option.bind_eq_some_iff.1 e
      obtain ⟨p, u, rfl, hu⟩ := open_pkgc n' cs' _ h2
      exact ⟨_, _, p, h1, rfl, hu⟩
    obtain ⟨l, hl, hA⟩ := elems2 (⟨⟨#[]⟩, []⟩ : Pg) _ hall
    refine ⟨l, some a, cap, by rw [hl], by omega, hcm, fun h0 => ?_⟩
    obtain ⟨b, o, e, hb, hr⟩ := hA (by omega)
    refine ⟨b, o, by rw [e], hb, fun i hi => ?_⟩
    obtain ⟨x, y, h1, h2, rfl, h3⟩ := hr i hi
    exact ⟨h1, y, h2, h3⟩
set_option maxRecDepth 100000 in
/-- A symbol that came in as an argument. -/
theorem open_symY {rc : Reach} {b0 : Nat} {v : Value} {d : DataW H} {p : List MemPlace} (hv : Value.okWide Try.prog w rc b0 23 v) (h : DataW.Trod enc Try.prog w 0 spare held 23 v d p) :
    ∃ x y : ByteArray, v = .agg #[.string x, .string y] := by
  obtain ⟨cs, rfl, _⟩ := okWide_struct Try.underlying23 hv
  obtain ⟨fuel, hf⟩ := h
  obtain ⟨s, hs⟩ := open_symc fuel _ _ hf
  have e : cs = #[.string s.1, .string s.2] := by
    have h2 : cs.toList = [.string s.1, .string s.2] := hs
    cases cs; simp_all
  exact ⟨s.1, s.2, by rw [e]⟩
set_option maxRecDepth 100000 in
/-- A package that came in as an argument. -/
theorem open_pkgY {rc : Reach} {b0 : Nat} {v : Value} {d : DataW H} {p : List MemPlace} (hv : Value.okWide Try.prog w rc b0 33 v) (h : DataW.Trod enc Try.prog w 0 spare held 33 v d p) :
    ∃ (n : ByteArray) (q : List Sy) (u : Value), v = .agg #[.string n, u] ∧ SyV w q u := by
  obtain ⟨cs, rfl, _⟩ := okWide_struct Try.underlying33 hv
  obtain ⟨fuel, hf⟩ := h
  obtain ⟨s, u, hs, hu⟩ := open_pkgc fuel _ _ hf
  have e : cs = #[.string s.1, u] := by
    have h2 : cs.toList = [.string s.1, u] := hs
    cases cs; simp_all
  exact ⟨s.1, s.2, u, by rw [e], hu⟩
set_option maxRecDepth 100000 in
/-- A slice of packages that came in as an argument. -/
theorem open_pkgsY {rc : Reach} {b0 : Nat} {v : Value} {d : DataW H} {p : List MemPlace} (hv : Value.okWide Try.prog w rc b0 28 v) (h : DataW.Trod enc Try.prog w 0 spare held 28 v d p) :
    ∃ l : List Pg, PgV w l v := by
  have hone : v.cells.toList = [v] ∨ ∃ cs, v = .agg cs := by
    cases v <;> first | exact .inl rfl | exact .inr ⟨_, rfl⟩
  obtain ⟨fuel, hf⟩ := h
  rcases hone with hone | ⟨cs, rfl⟩
  · rw [hone] at hf
    exact open_pkgsc fuel v _ hf
  · exfalso
    unfold Value.okWide at hv
    rw [Try.underlying28] at hv
    simp [Cell.okWide, Cell.ok] at hv
end
end Go.Proofs.Ytcgchacokcnacaa
