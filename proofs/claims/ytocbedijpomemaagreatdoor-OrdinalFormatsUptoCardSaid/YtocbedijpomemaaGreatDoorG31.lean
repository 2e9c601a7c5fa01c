/- Seeds that come in as arguments, and how large they are. -/
import Derived.Test.YtocbedijpomemaaGreatDoorG19
import Derived.Test.YtocbedijpomemaaGreatDoorG18
import Derived.Test.YtocbedijpomemaaGreatDoorRows
namespace Go.Proofs.YtocbedijpomemaaGreatDoor
open Go Go.RowKit
set_option linter.unusedVariables false
open Go Go.RowKit Go.ChangeShapes Go.WideShapes Go.Deep
theorem bulk_one {H : Type} (d : DataW H) : 1 ≤ Rows.uptoBulk d := by
 cases d with
 | lit l => cases l <;> simp [Rows.uptoBulk]
 | nil => simp [Rows.uptoBulk]
 | ptr d => simp [Rows.uptoBulk]
 | slice elems spare => simp [Rows.uptoBulk]
 | agg parts => simp [Rows.uptoBulk]
 | iface t d => simp [Rows.uptoBulk]
 | map entries => simp [Rows.uptoBulk]
 | held h => simp [Rows.uptoBulk]
theorem cnts_le {H : Type} : ∀ (l : List Sd) (es : List (DataW H)), l.length = es.length → (∀ i (hi : i < l.length) (he : i < es.length), l[i].cnt ≤ Rows.uptoBulk es[i]) → Sd.cnts l ≤ Rows.uptoBulkAll es
 | [], [], _, _ => by unfold Sd.cnts; exact Nat.zero_le _
 | r :: rs, d :: ds, hl, h => by
  unfold Sd.cnts Rows.uptoBulkAll
  have h0 := h 0 (by simp) (by simp)
  have h1 := cnts_le rs ds (by simpa using hl) (fun i hi he => h (i + 1) (by simpa using hi) (by simpa using he))
  simp only [List.getElem_cons_zero] at h0
  omega
theorem SdsAt.of {w : World} {S : Nat → Prop} {b : Nat} : ∀ (l : List Sd) (o : Nat), (∀ i (hi : i < l.length), ∃ cs, SdAt w S l[i] cs ∧ ∀ j u, cs[j]? = some u → w.cell? ⟨b, o + i * 2 + j, none⟩ = some u) → SdsAt w S b o l
 | [], o, _ => by unfold SdsAt; trivial
 | r :: rs, o, h => by
  unfold SdsAt
  refine ⟨?_, SdsAt.of rs (o + 2) fun i hi => ?_⟩
  · obtain ⟨cs, h1, h2⟩ := h 0 (by simp)
    exact ⟨cs, h1, fun j u hj => by have := h2 j u hj; rwa [Nat.zero_mul, Nat.add_zero] at this⟩
  · obtain ⟨cs, h1, h2⟩ := h (i + 1) (by simpa using hi)
    exact ⟨cs, h1, fun j u hj => by rw [show o + 2 + i * 2 + j = o + (i + 1) * 2 + j from by omega]; exact h2 j u hj⟩

section
variable {H : Type} {enc : TypeId × Value → H} {w : World} {spare : Nat → Bool} {held : Bool}
theorem sds_of {a : Addr} {len : Nat} {k : Nat → Nat} (h : ∀ i, i < len → ∃ cs r, w.cells? 0 (a.add (i * 2)) 2 = some cs ∧ SdAt w (Has w) r cs ∧ r.cnt ≤ k i) :
 ∃ l : List Sd, l.length = len ∧ (∀ i (hi : i < l.length), l[i].cnt ≤ k i) ∧ (0 < len → ∃ b o, a = ⟨b, o, none⟩ ∧ Has w b ∧ SdsAt w (Has w) b o l) := by
 classical
 let f : Nat → Sd := fun i => if hi : i < len then Classical.choose (Classical.choose_spec (h i hi)) else .mk 0 []
 have hf : ∀ i, i < len → ∃ cs, w.cells? 0 (a.add (i * 2)) 2 = some cs ∧ SdAt w (Has w) (f i) cs ∧ (f i).cnt ≤ k i := fun i hi => by
  have := Classical.choose_spec (Classical.choose_spec (h i hi))
  refine ⟨Classical.choose (h i hi), this.1, ?_⟩
  show SdAt w (Has w) (if hi : i < len then Classical.choose (Classical.choose_spec (h i hi)) else .mk 0 []) _ ∧ (if hi : i < len then Classical.choose (Classical.choose_spec (h i hi)) else .mk 0 []).cnt ≤ _
  rw [dif_pos hi]
  exact this.2
 refine ⟨(List.range len).map f, by simp, fun i hi => ?_, fun h0 => ?_⟩
 · have hi' : i < len := by simpa using hi
   obtain ⟨_, _, _, h3⟩ := hf i hi'
   simpa using h3
 obtain ⟨cs0, hc0, _⟩ := hf 0 h0
 obtain ⟨_, hl0, hat0⟩ := World.cells?_some hc0
 have hg := hat0 0 (by omega)
 rw [List.getElem?_eq_getElem (by omega)] at hg
 have ha : (a.add (0 * 2)).add 0 = a := by simp [Addr.add]
 rw [ha] at hg
 obtain ⟨hb, hs⟩ := cell_has hg
 obtain ⟨b, o, sp⟩ := a
 simp only at hs hb
 subst hs
 refine ⟨b, o, rfl, hb, SdsAt.of _ _ fun i hi => ?_⟩
 have hi' : i < len := by simpa using hi
 obtain ⟨cs, hc, hr, _⟩ := hf i hi'
 obtain ⟨_, hl, hat⟩ := World.cells?_some hc
 refine ⟨cs, by simpa using hr, fun j u hj => ?_⟩
 have hjl : j < 2 := by
  rcases Nat.lt_or_ge j 2 with h1 | h1
  · exact h1
  · rw [List.getElem?_eq_none (by omega)] at hj; cases hj
 have e := hat j hjl
 rw [hj, Go.Deep.add_add] at e
 have e2 : (Addr.add ⟨b, o, none⟩ (i * 2 + j)) = ⟨b, o + i * 2 + j, none⟩ := by
  unfold Addr.add
  split
  · rename_i hz; rw [show o + i * 2 + j = o by omega]
  · simp [Nat.add_assoc]
 rw [e2] at e
 exact e

set_option maxRecDepth 100000 in
theorem open_sd : ∀ (fuel : Nat) (cs : List Value) (x : DataW H × List MemPlace), DataW.trod enc Tryz.prog w 0 spare held fuel 24 cs = some x → ∃ r, SdAt w (Has w) r cs ∧ r.cnt ≤ Rows.uptoBulk x.1 := by
 intro fuel
 induction fuel using Nat.strongRecOn with
 | _ fuel ih =>
  intro cs x h
  obtain ⟨xs, n, rfl, hx, hlen, hxl, hf⟩ := DataW.trod_struct Tryz.underlying24 h
  have hlen' : cs.length = 2 := hlen.trans (by kernel_rfl)
  match cs, hlen' with
  | [c0, c1], _ =>
   have hxl' : xs.length = 2 := hxl
   match xs, hxl' with
   | [y0, y1], _ =>
    have k0 : Tryz.prog.cellsOf 3 = 1 := by kernel_rfl
    have k3 : Tryz.prog.cellsOf 22 = 1 := by kernel_rfl
    have f0 : DataW.trod enc Tryz.prog w 0 spare held n 3 (([c0, c1].drop 0).take (Tryz.prog.cellsOf 3)) = some y0 := hf 0 _ rfl
    have f3 : DataW.trod enc Tryz.prog w 0 spare held n 22 (([c0, c1].drop 1).take (Tryz.prog.cellsOf 22)) = some y1 := hf 1 _ rfl
    rw [k0] at f0
    rw [k3] at f3
    obtain ⟨m, e0, _, w0⟩ := DataW.trod_int Tryz.underlying3 (show DataW.trod enc Tryz.prog w 0 spare held n 3 [c0] = some y0 from f0)
    injection e0 with e0
    subst e0
    have hbx : Rows.uptoBulk x.1 = Rows.uptoBulk y0.1 + Rows.uptoBulk y1.1 + 1 := by
     rw [hx]
     simp [Rows.uptoBulk, Rows.uptoBulkAll]
    have b0 := bulk_one y0.1
    have f3' : DataW.trod enc Tryz.prog w 0 spare held n 22 [c1] = some y1 := f3
    rcases DataW.trod_slice Tryz.underlying22 f3' with ⟨e3, _⟩ | ⟨a, len, cap, elems, rest, n', hn, e3, hy1, _, hlc, hcm, hel, hat, _, _⟩
    · injection e3 with e3
      subst e3
      refine ⟨.mk m [], ?_, ?_⟩
      · unfold SdAt
        exact ⟨none, 0, rfl, i64_wf w0, Nat.le_refl _, Nat.zero_le _, fun h => by simp at h⟩
      · unfold Sd.cnt Sd.cnts
        omega
    · injection e3 with e3
      subst e3
      have hC : Tryz.prog.cellsOf 24 = 2 := by kernel_rfl
      rw [hC] at hat
      have hall : ∀ i, i < len → ∃ cs r, w.cells? 0 (a.add (i * 2)) 2 = some cs ∧ SdAt w (Has w) r cs ∧ r.cnt ≤ (fun i => ((elems[i]?).map fun e => Rows.uptoBulk e.1).getD 0) i := fun i hi => by
       have e := hat i hi
       rw [List.getElem?_eq_getElem (by omega)] at e
       obtain ⟨cs', h1, h2⟩ := Option.bind_eq_some_iff.1 e
       obtain ⟨r, hr, hb⟩ := ih n' (by omega) cs' _ h2
       refine ⟨cs', r, h1, hr, ?_⟩
       simp only [List.getElem?_eq_getElem (show i < elems.length by omega), Option.map_some, Option.getD_some]
       exact hb
      obtain ⟨l, hl, hk, hA⟩ := sds_of hall
      refine ⟨.mk m l, ?_, ?_⟩
      · unfold SdAt
        refine ⟨some a, cap, by rw [hl], i64_wf w0, by omega, hcm, fun h0 => ?_⟩
        obtain ⟨b, o, e, hb, hr⟩ := hA (by omega)
        exact ⟨b, o, by rw [e], hb, hr⟩
      · have h1 : Sd.cnts l ≤ Rows.uptoBulkAll (elems.map (·.1)) := cnts_le _ _ (by simp [hl, hel]) fun i hi he => by
         have := hk i hi
         have hie : i < elems.length := by omega
         simp only [List.getElem?_eq_getElem hie, Option.map_some, Option.getD_some] at this
         simpa using this
        have h2 : Rows.uptoBulk y1.1 = Rows.uptoBulkAll (elems.map (·.1)) + Rows.uptoBulkAll (rest.map (·.1)) + 1 := by
         rw [hy1]; simp [Rows.uptoBulk]
        unfold Sd.cnt
        omega
set_option maxRecDepth 100000 in
theorem open_sd2 {rc : Reach} {b0 : Nat} {v : Value} {d : DataW H} {p : List MemPlace} (hv : Value.okWide Tryz.prog w rc b0 24 v) (h : DataW.Trod enc Tryz.prog w 0 spare held 24 v d p) :
 ∃ (t : Sd) (z0 z1 : Value), v = .agg #[z0, z1] ∧ SdAt w (Has w) t [z0, z1] ∧ t.cnt ≤ Rows.uptoBulk d := by
 obtain ⟨cs, rfl, _⟩ := okWide_struct Tryz.underlying24 hv
 obtain ⟨fuel, hf⟩ := h
 obtain ⟨t, ht, hb⟩ := open_sd fuel _ _ hf
 cases t with
 | mk n l =>
  have ht' := ht
  unfold SdAt at ht'
  obtain ⟨A, c, e, _⟩ := ht'
  have e2 : cs = #[.int .i64 n, .slice A l.length c] := by
   apply Array.ext'
   exact e
  subst e2
  exact ⟨_, _, _, rfl, ht, hb⟩
end
end Go.Proofs.YtocbedijpomemaaGreatDoor
