/- Zero objects; the steps that the laws want. -/
import Derived.Test.YtobjdkblpjmbjaaGreatDoorG34
namespace Go.Proofs.YtobjdkblpjmbjaaGreatDoor
open Go Go.RowKit
set_option linter.unusedVariables false
theorem gw_eqlB {Q : Exit → Act → World → Prop} {ops : Array Oper} {K : Act → World → Prop} {a : Act} {w : World} {i : Nat} {o : Oper} (ho : ops[i]? = some o) (hw : Region.wanted o (yielded ops a.tmps) = true) (s t : Tmp) (b : Bool) (hop : o.op = Op.binOp BinOp.eql 4 (.tmp s) (.tmp t) 4) (hx : a.tmps[s]? = some (.bool b)) (hy : a.tmps[t]? = some (.bool b)) (hK : K (a.put o.dst (.bool true)) w) : wpOp Tryz.prog ops Q i K a w :=
 wpOp_step ho fun K' hK' => by
  have hK2 : K (a.put o.dst (.bool (b == b))) w := by rw [beq_self_eq_true]; exact hK
  rw [if_pos hw]
  unfold Oper.wp
  simp only [execOp, hop]
  go_simp
  first | exact hK' _ _ hK | exact hK' _ _ hK2
theorem gr_subc {Q : Exit → Act → World → Prop} {ops : Array Oper} {K : Act → World → Prop} {a : Act} {w : World} {i : Nat} {o : Oper} (ho : ops[i]? = some o) (hg : o.guard = none) (s : Tmp) (x k z : Int) (hz : x - k = z) (hb : -1000000 ≤ z ∧ z ≤ 1000000) (hop : o.op = Op.binOp BinOp.sub 3 (.tmp s) (.const (.int .i64 k)) 3) (hx : a.tmps[s]? = some (.int .i64 x)) (hK : K (a.put o.dst (.int .i64 z)) w) : wpOp Tryz.prog ops Q i K a w :=
 wpOp_step ho fun K' hK' => by
  subst hz
  have hw : IntKind.i64.wrap (x - k) = x - k := wrap_small hb
  rw [if_pos (wanted_plain hg)]
  unfold Oper.wp
  simp only [execOp, hop]
  go_simp
  exact hK' _ _ hK
theorem loadZ {ops : Array Oper} {rest : List Oper} {o : Oper} {a : Act} {w : World} {Q : Exit → Act → World → Prop} {g : Nat} (x : Operand) (ho : o.op = .load 35 x) (hgd : o.guard = none)
 (hx : a.eval x = .pointer (some ⟨g, 0, none⟩)) (hb : Bx w g zeroC)
 (h : wpList Tryz.prog ops Q rest (a.put o.dst (.agg zeroC)) w) : wpList Tryz.prog ops Q (o :: rest) a w :=
 wpList_load_row hgd 35 x ho g hx _ _ _ _ hb Tryz.underlying35 rfl (by kernel_rfl) h
theorem loadZG {ops : Array Oper} {rest : List Oper} {o : Oper} {a : Act} {w : World} {Q : Exit → Act → World → Prop} {g : Nat} (x : Operand) (ho : o.op = .load 35 x) (hw : Region.wanted o (yielded ops a.tmps) = true)
 (hx : a.eval x = .pointer (some ⟨g, 0, none⟩)) (hb : Bx w g zeroC)
 (h : wpList Tryz.prog ops Q rest (a.put o.dst (.agg zeroC)) w) : wpList Tryz.prog ops Q (o :: rest) a w := by
 unfold wpList
 rw [if_pos hw]
 exact .inl (wp_load_row 35 x ho g hx _ _ _ _ hb Tryz.underlying35 rfl (by kernel_rfl) h)
structure PtZ (w X : World) : Prop where
 bel : Below w.heap.size w X
 b0 : Bx X w.heap.size zeroC
theorem PtZ.new {w : World} {z : Array Value} : PtZ w (World.setRow (w.alloc (.cells z 35)) w.heap.size zeroC) := by
 have T := Bx1.new w z
 exact ⟨below_setRowO T.bel (Nat.le_refl _) _, T.b0.set⟩
theorem equalZ (w : World) : Calls Tryz.prog 24 #[.agg zeroC, .agg zeroC] w (RetB w true) := by
 have h := eqFlat 0 ⟨#[]⟩ ⟨#[]⟩ ⟨#[]⟩ ⟨#[]⟩ ⟨#[]⟩ ⟨#[]⟩ ⟨#[]⟩ ⟨#[]⟩ ⟨#[]⟩ ⟨#[]⟩ w
 rw [show eqS ⟨#[]⟩ ⟨#[]⟩ ⟨#[]⟩ ⟨#[]⟩ ⟨#[]⟩ ⟨#[]⟩ ⟨#[]⟩ ⟨#[]⟩ ⟨#[]⟩ ⟨#[]⟩ = true from by unfold eqS; simp] at h
 exact h
theorem finEq (o : Ob) : ((ordOf o).isSome && o.isNum) = o.nat.isSome := by
 cases o with
 | num q =>
  have h : ordOf (.num q) = (Ob.num q).nat.map .fin := rfl
  rw [h, show (Ob.num q).isNum = true from rfl, Bool.and_true, Option.isSome_map]
 | str s => simp [Ob.isNum, Ob.nat]
 | sym p n => simp [Ob.isNum, Ob.nat]
 | cons a d => simp [Ob.isNum, Ob.nat]
theorem finiteH2 (o : Ob) (p : Value) (w : World) (hb : o.bd 90) (hn : o.nodes ≤ 3000) (hp : Hd w o p) (ht : Tab w) :
 Calls Tryz.prog 22 #[vO o p] w (RetB w o.nat.isSome) := by
 have h := finiteH o p w hb hn hp ht
 rw [finEq] at h
 exact h
section
variable {Q : Exit → Act → World → Prop}
theorem wp_region_growZ {id : Nat} {a0 : Act} {w0 : World} {l : List Oper} (n : Nat) (hm : Tryz.prog.follows .mixedOrders = true) (hB : invB .any l.toArray (n + 1) = true)
 (d : Nat → Nat) (R : Nat → Value → Nat → Nat → World → Prop) (hR : ∀ i x l m w w', R i x l m w → m ≤ w.heap.size → Below w.heap.size w w' → R i x l m w')
 (hd : ∀ i j, i < n → j < n → d i = d j → i = j) (hds : ∀ i, i < n → d i < a0.tmps.size)
 (late : List Nat) (hlate : ((List.range n).all fun i => late.contains i || Region.waitsFor .any l.toArray n i) = true)
 (kb kv : Nat) (hkb : kb < n) (hkv : kv < n) (hwb : Region.waitsFor .any l.toArray n kb = true) (hwv : Region.waitsFor .any l.toArray n kv = true)
 (os : Oper) (hos : l[n]? = some os) (hog : os.guard = none) (hod : os.dst = none) (hop : os.op = .store 35 (.tmp (d kb)) (.tmp (d kv)))
 (hRb : ∀ v lo hi w, R kb v lo hi w → LBx v lo hi w) (hRv : ∀ v lo hi w, R kv v lo hi w → v = .agg zeroC)
 (step : ∀ i, i < n → ∀ (a : Act) (w : World) (v : Nat → Value) (lo hi : Nat → Nat), (∀ s, (∀ j, j < n → d j ≠ s) → a.tmps[s]? = a0.tmps[s]?) → Below w0.heap.size w0 w →
  (∀ j, j < n → Region.waitsFor .any l.toArray i j = true → a.tmps[d j]? = some (v j) ∧ R j (v j) (lo j) (hi j) w ∧ w0.heap.size ≤ lo j ∧ hi j ≤ w.heap.size) →
  wpOp Tryz.prog l.toArray Q i (fun a' w' => ∃ x, a' = a.put (some (d i)) x ∧ Below w.heap.size w w' ∧ R i x w.heap.size w'.heap.size w') a w)
 (stepL : ∀ i, i < n → late.contains i = true → ∀ (a : Act) (w1 w : World) (v : Nat → Value) (lo hi : Nat → Nat),
  (∀ j, j < n → Region.waitsFor .any l.toArray i j = true → a.tmps[d j]? = some (v j) ∧ R j (v j) (lo j) (hi j) w1) →
  wpOp Tryz.prog l.toArray Q i (fun a' w' => ∃ x, a' = a.put (some (d i)) x ∧ w' = w ∧ R i x w1.heap.size w1.heap.size w1) a w)
 (done : ∀ (a : Act) (w : World) (v : Nat → Value) (lo hi : Nat → Nat), a.defers = a0.defers → a.tmps.size = a0.tmps.size → (∀ s, (∀ j, j < n → d j ≠ s) → a.tmps[s]? = a0.tmps[s]?) → Below w0.heap.size w0 w →
  (∀ j, j < n → a.tmps[d j]? = some (v j) ∧ R j (v j) (lo j) (hi j) w ∧ w0.heap.size ≤ lo j ∧ hi j ≤ w.heap.size) → (∀ i j, i < n → j < n → i ≠ j → hi i ≤ lo j ∨ hi j ≤ lo i) →
  v kv = .agg zeroC → v kb = .pointer (some ⟨lo kb, 0, none⟩) → Bx w (lo kb) zeroC →
  wpList Tryz.prog l.toArray Q (l.drop (n + 1)) a (w.setRow (lo kb) zeroC)) :
 (Code.region id l.toArray true).wp Tryz.prog Q a0 w0 := by
 have hn : n + 1 < l.length := by
  simp only [invB, Bool.and_eq_true, decide_eq_true_eq] at hB
  simpa using hB.1.1.1.1
 have hwait : ∀ i, i < n → late.contains i = false → Region.waitsFor .any l.toArray n i = true := fun i hi hl => by
  have h1 := List.all_eq_true.1 hlate i (List.mem_range.2 hi)
  rw [hl] at h1
  simpa using h1
 refine wp_region_inv (n + 1) hm hB (fun listed a w => listed.size = l.length ∧
  ((listed.getD n true = false ∧ ∃ v lo hi, Grow n d R a0 w0 listed a w v lo hi) ∨
   (listed.getD n true = true ∧ (∀ i, i < n → Region.waitsFor .any l.toArray n i = true → listed.getD i true = true) ∧
    ∃ v lo hi w1, Grow n d R a0 w0 listed a w1 v lo hi ∧ v kv = .agg zeroC ∧ v kb = .pointer (some ⟨lo kb, 0, none⟩) ∧ Bx w1 (lo kb) zeroC ∧ w = w1.setRow (lo kb) zeroC))) ?_ ?_ ?_
 · refine ⟨by simp, .inl ⟨?_, fun _ => undef, fun _ => 0, fun _ => 0, rfl, rfl, fun _ _ => rfl, ⟨rfl, rfl, rfl, Nat.le_refl _, fun _ _ => rfl⟩, fun i hi hl => ?_, fun i j hi hj _ hl => ?_⟩⟩
   · have hlt : n < l.length := by omega
     simp [hlt]
   · have : (Array.replicate l.length false).getD i true = false := by
      have hlt : i < l.length := by omega
      simp [hlt]
     rw [this] at hl; cases hl
   · have : (Array.replicate l.length false).getD i true = false := by
      have hlt : i < l.length := by omega
      simp [hlt]
     rw [this] at hl; cases hl
 · rintro listed a w i hi hr ⟨hsz, hph⟩
   obtain ⟨hun, oi, hoi, hall⟩ := mem_ready.1 hr
   have hwl : ∀ j, j < l.length → Region.waitsFor .any l.toArray i j = true → listed.getD j true = true := fun j hj hw => by
    obtain ⟨oj, hoj, e, he, hbn, hon⟩ := Region.waitsFor_spec hw
    have : oj = oi := Option.some.inj (hoj.symm.trans hoi)
    subst this
    have hlj := hall e he hbn
    rw [hon] at hlj
    have hjl : j < listed.size := by omega
    simp [hjl] at hlj ⊢
    exact hlj
   have hgrow : ∀ k, listed.getD k true = true → (listed.setIfInBounds i true).getD k true = true := fun k hk => by
    by_cases e : i = k
    · subst e; exact set_getD
    · rw [Go.getD_set_ne true e]; exact hk
   rcases hph with ⟨hnl, v, lo, hi', hG⟩ | ⟨hnl, hwt, v, lo, hi', w1, hG, hv, hvb, hb, rfl⟩
   · by_cases hin : i = n
     · subst hin
       have hb := hwl kb (by omega) hwb
       have hvv := hwl kv (by omega) hwv
       obtain ⟨sb, rb, _, _, _⟩ := hG.slot kb hkb hb
       obtain ⟨sv, rv, _, _, _⟩ := hG.slot kv hkv hvv
       obtain ⟨eb, bb, lb⟩ := hRb _ _ _ _ rb
       have ev := hRv _ _ _ _ rv
       have hosl : l.toArray[i]? = some os := by simpa using hos
       refine wpOp_step hosl fun K' hK' => ?_
       rw [if_pos (wanted_plain hog)]
       refine wp_store_row 35 _ _ hop (lo kb) zeroC ((eval_of sb).trans eb) ((eval_of sv).trans ev) _ _ bb (by kernel_rfl) rfl (by simp [zeroC, Value.oneCell']) ?_
       refine hK' _ _ ⟨by simpa using hsz, .inr ⟨set_getD, fun j hj hw => hgrow j (hwl j (by omega) hw), v, lo, hi', w, ?_, ev, eb, bb, rfl⟩⟩
       rw [hod]
       have hset : ∀ j, j < i → (listed.setIfInBounds i true).getD j true = listed.getD j true := fun j hj => Go.getD_set_ne true (by omega)
       exact ⟨hG.defers, hG.size, hG.other, hG.below, fun j hj hl => hG.slot j hj (by rw [← hset j hj]; exact hl), fun j k hj hk hne hl hl2 => hG.apart j k hj hk hne (by rw [← hset j hj]; exact hl) (by rw [← hset k hk]; exact hl2)⟩
     · have hi2 : i < n := by omega
       refine wpOp_mono ?_ (step i hi2 a w v lo hi' hG.other hG.below (fun j hj hw => ?_))
       · rintro a' w' ⟨x, rfl, hb, hx⟩
         refine ⟨by simpa using hsz, .inl ⟨?_, _, _, _, hG.step hR hd hds hi2 (by omega) hun hb hx⟩⟩
         rw [Go.getD_set_ne true (by omega)]; exact hnl
       · obtain ⟨h1, h2, h3, h4, h5⟩ := hG.slot j hj (hwl j (by omega) hw)
         exact ⟨h1, h2, h3, h5⟩
   · have hin : i ≠ n := fun e => by rw [e, hnl] at hun; cases hun
     have hi2 : i < n := by omega
     have hcl : late.contains i = true := by
      cases hc : late.contains i with
      | true => rfl
      | false => rw [hwt i hi2 (hwait i hi2 hc)] at hun; cases hun
     have hb1 := hwt kb hkb hwb
     have hb2 := hwt kv hkv hwv
     have n1 : ¬ kb = i := fun e => by rw [← e, hb1] at hun; cases hun
     have n2 : ¬ kv = i := fun e => by rw [← e, hb2] at hun; cases hun
     refine wpOp_mono ?_ (stepL i hi2 hcl a w1 (w1.setRow (lo kb) zeroC) v lo hi' (fun j hj hw => ?_))
     · rintro a' w' ⟨x, rfl, rfl, hx⟩
       refine ⟨by simpa using hsz, .inr ⟨hgrow n hnl, fun j hj hw => hgrow j (hwt j hj hw), _, _, _, w1, hG.step hR hd hds hi2 (by omega) hun (Below.refl _ _) hx, ?_, ?_, ?_, ?_⟩⟩
       · simp only [if_neg n2]; exact hv
       · simp only [if_neg n1]; exact hvb
       · simp only [if_neg n1]; exact hb
       · simp only [if_neg n1]
     · obtain ⟨h1, h2, _, _, _⟩ := hG.slot j hj (hwl j (by omega) hw)
       exact ⟨h1, h2⟩
 · rintro a w ⟨hsz, hph⟩
   have hfull : ∀ i, i < n + 1 → (fullHead (n + 1) (l.length - (n + 1))).getD i true = true := fun i hi => by
    have hlt : i < (fullHead (n + 1) (l.length - (n + 1))).size := by simp [fullHead]; omega
    simp [fullHead, hi, List.getElem?_append]
   rcases hph with ⟨hnl, _⟩ | ⟨hnl, hwt, v, lo, hi', w1, hG, hv, hvb, hb, rfl⟩
   · rw [hfull n (by omega)] at hnl; cases hnl
   · exact done a w1 v lo hi' hG.defers hG.size hG.other hG.below (fun j hj => by
      obtain ⟨h1, h2, h3, h4, h5⟩ := hG.slot j hj (hfull j (by omega))
      exact ⟨h1, h2, h3, h5⟩) (fun i j hi hj hne => hG.apart i j hi hj hne (hfull i (by omega)) (hfull j (by omega))) hv hvb hb
end
end Go.Proofs.YtobjdkblpjmbjaaGreatDoor
