import Derived.Test.YtbffnoodpoagcaaGreatDoorAl
import Derived.Test.YtbffnoodpoagcaaGreatDoorH29
import Derived.Test.YtbffnoodpoagcaaGreatDoorH31
namespace Go.Proofs.YtbffnoodpoagcaaGreatDoor
open Go Go.RowKit
set_option linter.unusedVariables false
section
variable {Q : Exit → Act → World → Prop}
theorem wp_region_growU {id : Nat} {a0 : Act} {w0 : World} {l : List Oper} (n : Nat) (hm : Tryz.prog.follows .mixedOrders = true) (hB : invB .any l.toArray (n + 1) = true)
 (d : Nat → Nat) (R : Nat → Value → Nat → Nat → World → Prop) (hR : ∀ i x l m w w', R i x l m w → m ≤ w.heap.size → Below w.heap.size w w' → R i x l m w')
 (hd : ∀ i j, i < n → j < n → d i = d j → i = j) (hds : ∀ i, i < n → d i < a0.tmps.size)
 (late : List Nat) (hlate : ((List.range n).all fun i => late.contains i || Region.waitsFor .any l.toArray n i) = true)
 (kb kv : Nat) (hkb : kb < n) (hkv : kv < n) (hwb : Region.waitsFor .any l.toArray n kb = true) (hwv : Region.waitsFor .any l.toArray n kv = true)
 (os : Oper) (hos : l[n]? = some os) (hog : os.guard = none) (hod : os.dst = none) (hop : os.op = .store 27 (.tmp (d kb)) (.tmp (d kv)))
 (hRb : ∀ v lo hi w, R kb v lo hi w → LBx v lo hi w) (G : Array Value → Prop) (hRv : ∀ v lo hi w, R kv v lo hi w → ∃ cs, v = .agg cs ∧ (cs.size = 7 ∧ cs.all (·.oneCell') = true) ∧ G cs)
 (step : ∀ i, i < n → ∀ (a : Act) (w : World) (v : Nat → Value) (lo hi : Nat → Nat), (∀ s, (∀ j, j < n → d j ≠ s) → a.tmps[s]? = a0.tmps[s]?) → Below w0.heap.size w0 w →
   (∀ j, j < n → Region.waitsFor .any l.toArray i j = true → a.tmps[d j]? = some (v j) ∧ R j (v j) (lo j) (hi j) w ∧ w0.heap.size ≤ lo j ∧ hi j ≤ w.heap.size) →
   wpOp Tryz.prog l.toArray Q i (fun a' w' => ∃ x, a' = a.put (some (d i)) x ∧ Below w.heap.size w w' ∧ R i x w.heap.size w'.heap.size w') a w)
 (stepL : ∀ i, i < n → late.contains i = true → ∀ (a : Act) (w1 w : World) (v : Nat → Value) (lo hi : Nat → Nat),
   (∀ j, j < n → Region.waitsFor .any l.toArray i j = true → a.tmps[d j]? = some (v j) ∧ R j (v j) (lo j) (hi j) w1) →
   wpOp Tryz.prog l.toArray Q i (fun a' w' => ∃ x, a' = a.put (some (d i)) x ∧ w' = w ∧ R i x w1.heap.size w1.heap.size w1) a w)
 (done : ∀ (a : Act) (w : World) (v : Nat → Value) (lo hi : Nat → Nat) (cs : Array Value), G cs → a.defers = a0.defers → a.tmps.size = a0.tmps.size → (∀ s, (∀ j, j < n → d j ≠ s) → a.tmps[s]? = a0.tmps[s]?) → Below w0.heap.size w0 w →
   (∀ j, j < n → a.tmps[d j]? = some (v j) ∧ R j (v j) (lo j) (hi j) w ∧ w0.heap.size ≤ lo j ∧ hi j ≤ w.heap.size) → (∀ i j, i < n → j < n → i ≠ j → hi i ≤ lo j ∨ hi j ≤ lo i) →
   v kv = .agg cs → (cs.size = 7 ∧ cs.all (·.oneCell') = true) → v kb = .pointer (some ⟨lo kb, 0, none⟩) → Bx w (lo kb) zeroC →
   wpList Tryz.prog l.toArray Q (l.drop (n + 1)) a (w.setRow (lo kb) cs)) :
 (Code.region id l.toArray true).wp Tryz.prog Q a0 w0 := by
 have hn : n + 1 < l.length := by
  simp only [invB, Bool.and_eq_true, decide_eq_true_eq] at hB
  simpa using hB.1.1.1.1
 have hwait : ∀ i, i < n → late.contains i = false → Region.waitsFor .any l.toArray n i = true := fun i hi hl => by
  have h1 := List.all_eq_true.1 hlate i (List.mem_range.2 hi)
  rw [hl] at h1
  simpa using h1
 refine wp_region_inv (n + 1) hm hB (fun listed a w => listed.size = l.length ∧
  ((listed.getD n true = false ∧ ∃ v lo hi, Grow n d R a0 w0 listed a w v lo hi) ∨
    (listed.getD n true = true ∧ (∀ i, i < n → Region.waitsFor .any l.toArray n i = true → listed.getD i true = true) ∧
      ∃ v lo hi w1 cs, G cs ∧ Grow n d R a0 w0 listed a w1 v lo hi ∧ v kv = .agg cs ∧ (cs.size = 7 ∧ cs.all (·.oneCell') = true) ∧ v kb = .pointer (some ⟨lo kb, 0, none⟩) ∧ Bx w1 (lo kb) zeroC ∧ w = w1.setRow (lo kb) cs))) ?_ ?_ ?_
 · refine ⟨by simp, .inl ⟨?_, fun _ => undef, fun _ => 0, fun _ => 0, rfl, rfl, fun _ _ => rfl, ⟨rfl, rfl, rfl, Nat.le_refl _, fun _ _ => rfl⟩, fun i hi hl => ?_, fun i j hi hj _ hl => ?_⟩⟩
   · have hlt : n < l.length := by omega
     simp [hlt]
   · have : (Array.replicate l.length false).getD i true = false := by
      have hlt : i < l.length := by omega
      simp [hlt]
     rw [this] at hl; cases hl
   · have : (Array.replicate l.length false).getD i true = false := by
      have hlt : i < l.length := by omega
      simp [hlt]
     rw [this] at hl; cases hl
 · rintro listed a w i hi hr ⟨hsz, hph⟩
   obtain ⟨hun, oi, hoi, hall⟩ := mem_ready.1 hr
   have hwl : ∀ j, j < l.length → Region.waitsFor .any l.toArray i j = true → listed.getD j true = true := fun j hj hw => by
    obtain ⟨oj, hoj, e, he, hbn, hon⟩ := Region.waitsFor_spec hw
    have : oj = oi := Option.some.inj (hoj.symm.trans hoi)
    subst this
    have hlj := hall e he hbn
    rw [hon] at hlj
    have hjl : j < listed.size := by omega
    simp [hjl] at hlj ⊢
    exact hlj
   have hgrow : ∀ k, listed.getD k true = true → (listed.setIfInBounds i true).getD k true = true := fun k hk => by
    by_cases e : i = k
    · subst e; exact set_getD
    · rw [Go.getD_set_ne true e]; exact hk
   rcases hph with ⟨hnl, v, lo, hi', hG⟩ | ⟨hnl, hwt, v, lo, hi', w1, cs, go, hG, hv, hp, hvb, hb, rfl⟩
   · by_cases hin : i = n
     · subst hin
       have hb := hwl kb (by omega) hwb
       have hvv := hwl kv (by omega) hwv
       obtain ⟨sb, rb, _, _, _⟩ := hG.slot kb hkb hb
       obtain ⟨sv, rv, _, _, _⟩ := hG.slot kv hkv hvv
       obtain ⟨eb, bb, lb⟩ := hRb _ _ _ _ rb
       obtain ⟨cs, ev, hp, go⟩ := hRv _ _ _ _ rv
       have hosl : l.toArray[i]? = some os := by simpa using hos
       refine wpOp_step hosl fun K' hK' => ?_
       rw [if_pos (wanted_plain hog)]
       refine wp_store_row 27 _ _ hop (lo kb) cs ((eval_of sb).trans eb) ((eval_of sv).trans ev) _ _ bb (by rw [hp.1]; kernel_rfl) (by rw [hp.1]; rfl) hp.2 ?_
       refine hK' _ _ ⟨by simpa using hsz, .inr ⟨set_getD, fun j hj hw => hgrow j (hwl j (by omega) hw), v, lo, hi', w, cs, go, ?_, ev, hp, eb, bb, rfl⟩⟩
       rw [hod]
       have hset : ∀ j, j < i → (listed.setIfInBounds i true).getD j true = listed.getD j true := fun j hj => Go.getD_set_ne true (by omega)
       exact ⟨hG.defers, hG.size, hG.other, hG.below, fun j hj hl => hG.slot j hj (by rw [← hset j hj]; exact hl), fun j k hj hk hne hl hl2 => hG.apart j k hj hk hne (by rw [← hset j hj]; exact hl) (by rw [← hset k hk]; exact hl2)⟩
     · have hi2 : i < n := by omega
       refine wpOp_mono ?_ (step i hi2 a w v lo hi' hG.other hG.below (fun j hj hw => ?_))
       · rintro a' w' ⟨x, rfl, hb, hx⟩
         refine ⟨by simpa using hsz, .inl ⟨?_, _, _, _, hG.step hR hd hds hi2 (by omega) hun hb hx⟩⟩
         rw [Go.getD_set_ne true (by omega)]; exact hnl
       · obtain ⟨h1, h2, h3, h4, h5⟩ := hG.slot j hj (hwl j (by omega) hw)
         exact ⟨h1, h2, h3, h5⟩
   · have hin : i ≠ n := fun e => by rw [e, hnl] at hun; cases hun
     have hi2 : i < n := by omega
     have hcl : late.contains i = true := by
      cases hc : late.contains i with
      | true => rfl
      | false => rw [hwt i hi2 (hwait i hi2 hc)] at hun; cases hun
     have hb1 := hwt kb hkb hwb
     have hb2 := hwt kv hkv hwv
     have n1 : ¬ kb = i := fun e => by rw [← e, hb1] at hun; cases hun
     have n2 : ¬ kv = i := fun e => by rw [← e, hb2] at hun; cases hun
     refine wpOp_mono ?_ (stepL i hi2 hcl a w1 (w1.setRow (lo kb) cs) v lo hi' (fun j hj hw => ?_))
     · rintro a' w' ⟨x, rfl, rfl, hx⟩
       refine ⟨by simpa using hsz, .inr ⟨hgrow n hnl, fun j hj hw => hgrow j (hwt j hj hw), _, _, _, w1, cs, go, hG.step hR hd hds hi2 (by omega) hun (Below.refl _ _) hx, ?_, hp, ?_, ?_, ?_⟩⟩
       · simp only [if_neg n2]; exact hv
       · simp only [if_neg n1]; exact hvb
       · simp only [if_neg n1]; exact hb
       · simp only [if_neg n1]
     · obtain ⟨h1, h2, _, _, _⟩ := hG.slot j hj (hwl j (by omega) hw)
       exact ⟨h1, h2⟩
 · rintro a w ⟨hsz, hph⟩
   have hfull : ∀ i, i < n + 1 → (fullHead (n + 1) (l.length - (n + 1))).getD i true = true := fun i hi => by
    have hlt : i < (fullHead (n + 1) (l.length - (n + 1))).size := by simp [fullHead]; omega
    simp [fullHead, hi, List.getElem?_append]
   rcases hph with ⟨hnl, _⟩ | ⟨hnl, hwt, v, lo, hi', w1, cs, go, hG, hv, hp, hvb, hb, rfl⟩
   · rw [hfull n (by omega)] at hnl; cases hnl
   · exact done a w1 v lo hi' cs go hG.defers hG.size hG.other hG.below (fun j hj => by
      obtain ⟨h1, h2, h3, h4, h5⟩ := hG.slot j hj (hfull j (by omega))
      exact ⟨h1, h2, h3, h5⟩) (fun i j hi hj hne => hG.apart i j hi hj hne (hfull i (by omega)) (hfull j (by omega))) hv hp hvb hb
end
def LBy (k : Nat) : Lv := fun v _ _ w => ∃ g, v = .slice (some ⟨g, 0, none⟩) 1 1 ∧ w.heap[g]? = some (.cells #[.int .u8 (k : Int)] 5 (0, 0))
theorem lt_heap' {w : World} {g : Nat} {x : Obj} (h : w.heap[g]? = some x) : g < w.heap.size := by
 rcases Nat.lt_or_ge g w.heap.size with hlt | hge
 · exact hlt
 · rw [Array.getElem?_eq_none hge] at h; cases h
theorem mLBy (k : Nat) : Mon (LBy k) := fun _ _ _ _ _ ⟨g, h, hh⟩ _ hb => ⟨g, h, (hb.block g (lt_heap' hh)).trans hh⟩
theorem lby_new (w : World) (k : Nat) : ∃ g, Value.slice (some ⟨w.heap.size, 0, none⟩) 1 1 = .slice (some ⟨g, 0, none⟩) 1 1 ∧ (w.alloc (.cells #[.int .u8 (k : Int)] 5)).heap[g]? = some (.cells #[.int .u8 (k : Int)] 5 (0, 0)) := ⟨_, rfl, heap_alloc_new w _⟩
section
variable {Q : Exit → Act → World → Prop} {ops : Array Oper} {K : Act → World → Prop} {a : Act} {w : World} {i : Nat} {o : Oper}
theorem gw_cvB (ho : ops[i]? = some o) (hw : Region.wanted o (yielded ops a.tmps) = true) (s : Tmp) (k : Nat) (hk : k < 256) (hop : o.op = Op.convert 3 5 (.tmp s)) (hx : a.tmps[s]? = some (.int .i64 (k : Int))) (hK : K (a.put o.dst (.int .u8 (k : Int))) w) : wpOp Tryz.prog ops Q i K a w := by
 have hq : IntKind.u8.wrap (k : Int) = k := IntWalk.u8_in _ (by omega)
 exact wpOp_step ho fun K' hK' => by
  rw [if_pos hw]
  unfold Oper.wp
  simp only [execOp, hop]
  go_simp
  exact hK' _ _ hK
theorem gw_bsB (ho : ops[i]? = some o) (hw : Region.wanted o (yielded ops a.tmps) = true) (s : Tmp) (k : Nat) (hop : o.op = Op.buildSlice 33 1 #[(0, .tmp s)]) (hx : a.tmps[s]? = some (.int .u8 (k : Int))) (hK : K (a.put o.dst (.slice (some ⟨w.heap.size, 0, none⟩) 1 1)) (w.alloc (.cells #[.int .u8 (k : Int)] 5))) : wpOp Tryz.prog ops Q i K a w :=
 wpOp_step ho fun K' hK' => by
  rw [if_pos hw]
  unfold Oper.wp
  simp only [execOp, hop]
  go_simp
  exact hK' _ _ hK
theorem gw_cvS (ho : ops[i]? = some o) (hw : Region.wanted o (yielded ops a.tmps) = true) (s : Tmp) (g k : Nat) (hk : k < 256) (hop : o.op = Op.convert 33 9 (.tmp s)) (hx : a.tmps[s]? = some (.slice (some ⟨g, 0, none⟩) 1 1)) (hg : w.heap[g]? = some (.cells #[.int .u8 (k : Int)] 5 (0, 0))) (hK : K (a.put o.dst (.string ⟨#[UInt8.ofNat k]⟩)) w) : wpOp Tryz.prog ops Q i K a w := by
 have hr : (convert 33 9 (.slice (some ⟨g, 0, none⟩) 1 1)).run Tryz.prog w = .ok (.string ⟨#[UInt8.ofNat k]⟩) w :=
  run_convert_bytes_back _ 33 9 5 ⟨g, 0, none⟩ 1 [UInt8.ofNat k] Tryz.underlying33 Tryz.underlying5 Tryz.underlying9 (fun j hj => by
   have hj0 : j = 0 := by simpa using hj
   subst hj0
   show w.cell? ((⟨g, 0, none⟩ : Addr).add 0) = some (.int .u8 ((UInt8.ofNat k).toNat : Int))
   rw [show (UInt8.ofNat k).toNat = k from by simp; omega]
   show w.cell? ⟨g, 0, none⟩ = _
   rw [cell_of_row _ _ _ _ _ _ hg]; rfl)
 exact wpOp_step ho fun K' hK' => by
  rw [if_pos hw]
  unfold Oper.wp
  simp only [execOp, hop]
  go_simp
  exact hK' _ _ hK
end
theorem ok200 {s : ByteArray} (h : okT (LA s) = true) : s.size ≤ 200 := by
 unfold okT at h
 rw [decide_eq_true_eq, BA_LA] at h
 omega
theorem fineStr {s : ByteArray} (h : s.size ≤ 200) : Fine (.str (LA s)) := ⟨h, by show 1 ≤ 1000; decide⟩
theorem fineInt {n : Int} (h : I64 n) : Fine (inO n) := ⟨(bd_int (k := 90) (by
 have h1 := h.1
 have h2 := h.2
 have : n.natAbs ≤ 9223372036854775808 := by omega
 exact Nat.lt_of_le_of_lt this (by decide)) (by decide)), by show 1 ≤ 1000; decide⟩
theorem intI {n : Int} (h : I64 n) : IntO (inO n) := fun q e => by
 unfold inO at e
 injection e with e
 subst e
 rw [Rat.num_intCast]
 exact h
theorem intS (s : List UInt8) : IntO (.str s) := fun q e => by cases e
theorem idx_int (m : Nat) (n : Int) : idxV m (inO n) = if 0 ≤ n ∧ n < m then some n.toNat else none := by
 unfold inO idxV
 simp [Rat.den_intCast, Rat.num_intCast]
def b24 (n : Int) : Ob := primV 24 [inO n]
def b23 (s : ByteArray) (n : Int) : Ob := primV 23 [.str (LA s), inO n]
def b20 (s t : ByteArray) : Ob := primV 20 [.str (LA s), .str (LA t)]
theorem b24_in (k : Nat) (hk : k < 256) : b24 (k : Int) = .str (LA ⟨#[UInt8.ofNat k]⟩) := by
 show Ob.str _ = _
 rw [idx_int, if_pos ⟨by omega, by omega⟩]
 rfl
theorem b24_out {n : Int} (h : ¬ (0 ≤ n ∧ n ≤ 255)) : b24 n = .str [] := by
 show Ob.str _ = _
 rw [idx_int, if_neg (by omega)]
theorem b23_in (s : ByteArray) (k : Nat) (hk : k < s.size) : b23 s (k : Int) = inO ((s[k]).toNat : Int) := by
 show (match idxV (LA s).length (inO (k : Int)) with | some k => inO (((LA s).getD k 0).toNat : Int) | none => .nil) = _
 have e : (LA s).length = s.size := rfl
 rw [idx_int, if_pos ⟨by omega, by omega⟩]
 show inO (((LA s).getD k 0).toNat : Int) = _
 rw [List.getD_eq_getElem?_getD, List.getElem?_eq_getElem (by omega)]
 rfl
theorem b23_out (s : ByteArray) {n : Int} (h : ¬ (0 ≤ n ∧ n < s.size)) : b23 s n = .nil := by
 show (match idxV (LA s).length (inO n) with | some k => inO (((LA s).getD k 0).toNat : Int) | none => .nil) = _
 have e : (LA s).length = s.size := rfl
 rw [idx_int, if_neg (by omega)]
theorem b20_in (s t : ByteArray) (h : Sy.symOk t s = true) : b20 s t = .sym (LA t) (LA s) := by
 show (if Sy.symOk (BA (LA t)) (BA (LA s)) then Ob.sym (LA t) (LA s) else .nil) = _
 rw [BA_LA, BA_LA, if_pos h]
theorem b20_out (s t : ByteArray) (h : Sy.symOk t s = false) : b20 s t = .nil := by
 show (if Sy.symOk (BA (LA t)) (BA (LA s)) then Ob.sym (LA t) (LA s) else .nil) = _
 rw [BA_LA, BA_LA, if_neg (by rw [h]; decide)]
theorem flat23 (s : ByteArray) (n : Int) : (b23 s n).isCons = false := by
 by_cases h : 0 ≤ n ∧ n < s.size
 · obtain ⟨k, rfl⟩ : ∃ k : Nat, n = k := ⟨n.toNat, by omega⟩
   rw [b23_in s k (by omega)]; rfl
 · rw [b23_out s h]; rfl
theorem flat20 (s t : ByteArray) : (b20 s t).isCons = false := by
 cases h : Sy.symOk t s with
 | true => rw [b20_in s t h]; rfl
 | false => rw [b20_out s t h]; rfl
theorem hd_flat {o : Ob} (h : o.isCons = false) (w : World) : Hd w o (.slice none 0 0) := by
 cases o with
 | cons a d => cases h
 | num q => exact hd_num w q
 | str s => exact rfl
 | sym p n => exact rfl
theorem v24 (n : Int) (h64 : I64 n) (v : Value) (w : World) (hv : Ar w [inO n] v) (ht : Tab w) : Calls Tryz.prog 13 #[.string (nmS 24), v] w (RetH w (b24 n)) :=
 valueO 24 (by decide) [inO n] v w hv rfl (fun o ho => by rw [List.mem_singleton] at ho; subst ho; exact fineInt h64) (fun _ o ho => by rw [List.mem_singleton] at ho; subst ho; exact intI h64) (good_bytes (inO n)) ht
theorem v23 (s : ByteArray) (hs : s.size ≤ 200) (n : Int) (h64 : I64 n) (v : Value) (w : World) (hv : Ar w [.str (LA s), inO n] v) (ht : Tab w) : Calls Tryz.prog 13 #[.string (nmS 23), v] w (RetH w (b23 s n)) :=
 valueO 23 (by decide) [.str (LA s), inO n] v w hv rfl (fun o ho => by
  rcases List.mem_cons.1 ho with rfl | ho
  · exact fineStr hs
  · rw [List.mem_singleton] at ho; subst ho; exact fineInt h64) (fun _ o ho => by
  rcases List.mem_cons.1 ho with rfl | ho
  · exact intS _
  · rw [List.mem_singleton] at ho; subst ho; exact intI h64) (good_byte (.str (LA s)) (inO n)) ht
theorem v20 (s t : ByteArray) (hs : s.size ≤ 200) (hb : t.size ≤ 200) (v : Value) (w : World) (hv : Ar w [.str (LA s), .str (LA t)] v) (ht : Tab w) : Calls Tryz.prog 13 #[.string (nmS 20), v] w (RetH w (b20 s t)) :=
 valueO 20 (by decide) [.str (LA s), .str (LA t)] v w hv rfl (fun o ho => by
  rcases List.mem_cons.1 ho with rfl | ho
  · exact fineStr hs
  · rw [List.mem_singleton] at ho; subst ho; exact fineStr hb) (fun h => absurd h (by decide)) (show Good (primV 20 [.str (LA s), .str (LA t)]) from good_intern (.str (LA s)) (.str (LA t))) ht
def ap21 (s t : ByteArray) : Value := if s.size + t.size ≤ 200 then .tuple #[vO (.str (LA s ++ LA t)) (.slice none 0 0), .int .i64 0] else .tuple #[.agg zeroC, .int .i64 2]
theorem a21 (s t : ByteArray) (hs : s.size ≤ 200) (hb : t.size ≤ 200) (v : Value) (w : World) (hv : Ar w [.str (LA s), .str (LA t)] v) (ht : Tab w) : Calls Tryz.prog 17 #[.agg #[.string (BA lispB), .string (nmS 21)], v] w fun e w' => e = .returned (ap21 s t) ∧ Below w.heap.size w w' := by
 have hf := fnd_at 21 (by decide)
 have h := applyPall (BA lispB) (nmS 21) [.str (LA s), .str (LA t)] v w hv (okT (LA s ++ LA t)) ht (fun o ho => by
  rcases List.mem_cons.1 ho with rfl | ho
  · exact fineStr hs
  · rw [List.mem_singleton] at ho; subst ho; exact fineStr hb) (fun j hj h => by rw [hf] at hj; injection hj with hj; subst hj; exact absurd h (by decide)) (fun j hj _ W p hp' _ => by
  rw [hf] at hj; injection hj with hj; subst hj
  have e1 : (LA s).length = s.size := rfl
  have e2 : (LA t).length = t.size := rfl
  exact validPT (LA s ++ LA t) (by rw [List.length_append]; omega) p W hp')
 rw [hf] at h
 refine h.mono fun e w' hr => ?_
 have e1 : (LA s).length = s.size := rfl
 have e2 : (LA t).length = t.size := rfl
 have hz : ((BA (LA s ++ LA t)).size : Int) = s.size + t.size := by rw [BA_size, List.length_append]; omega
 unfold ap21
 by_cases hl : s.size + t.size ≤ 200
 · rw [if_pos hl]
   have hk : okT (LA s ++ LA t) = true := by unfold okT; rw [decide_eq_true_eq, hz]; omega
   rw [hk] at hr
   obtain ⟨p, h1, h2, h3⟩ : ∃ p, e = .returned (.tuple #[vO (.str (LA s ++ LA t)) p, .int .i64 0]) ∧ Hd w' (.str (LA s ++ LA t)) p ∧ Below w.heap.size w w' := hr
   obtain rfl : p = .slice none 0 0 := h2.flat rfl
   exact ⟨h1, h3⟩
 · rw [if_neg hl]
   have hk : okT (LA s ++ LA t) = false := by unfold okT; rw [decide_eq_false_iff_not, hz]; omega
   rw [hk] at hr
   exact hr
theorem app_str (s t : ByteArray) : Ob.str (LA s ++ LA t) = .str (LA (s ++ t)) := by
 have e : LA (s ++ t) = LA s ++ LA t := by
  show (s ++ t).data.toList = _
  rw [ByteArray.data_append, Array.toList_append]
  rfl
 rw [e]
set_option maxHeartbeats 4000000 in
set_option maxRecDepth 100000 in
theorem lawBytesA (xa xb : ByteArray) (n : Int) (w : World) (h1 : ¬ xa.size ≤ 300) (ht : Tab w) :
 Calls Tryz.prog 3 #[.string xa, .string xb, .int .i64 n] w (RetB w true) := by
 have h1' : ¬ (xa.size : Int) ≤ 300 := by omega
 have HT := qh9 ht
 have HT0 := qh9 ht
 have HW := qh9 (Below.refl w.heap.size w)
 clear ht
 go_enter Tryz.func3, Tryz.ntmps3
 go_wp2_with fail
 with_reducible refine (first7 _ HT.out).mono ?_
 rintro e w1 ⟨rfl, hb⟩
 replace HT := qh9 (HT.out.below hb)
 replace HW := qc9 HW hb
 clear hb
 go_wp2
 all_goals first | (go_ret; exact ⟨rfl, HW.out⟩) | (exfalso; omega)
set_option maxHeartbeats 4000000 in
set_option maxRecDepth 100000 in
theorem lawBytesB (xa xb : ByteArray) (n : Int) (w : World) (h1 : xa.size ≤ 300) (h2 : ¬ xb.size ≤ 300) (ht : Tab w) :
 Calls Tryz.prog 3 #[.string xa, .string xb, .int .i64 n] w (RetB w true) := by
 have h1' : (xa.size : Int) ≤ 300 := by omega
 have h2' : ¬ (xb.size : Int) ≤ 300 := by omega
 have HT := qh9 ht
 have HT0 := qh9 ht
 have HW := qh9 (Below.refl w.heap.size w)
 clear ht
 go_enter Tryz.func3, Tryz.ntmps3
 go_wp2_with fail
 with_reducible refine (first7 _ HT.out).mono ?_
 rintro e w1 ⟨rfl, hb⟩
 replace HT := qh9 (HT.out.below hb)
 replace HW := qc9 HW hb
 clear hb
 go_wp2
 all_goals first | (go_ret; exact ⟨rfl, HW.out⟩) | (exfalso; omega)
set_option maxHeartbeats 16000000 in
set_option maxRecDepth 100000 in
theorem lawBytesC (xa xb : ByteArray) (n : Int) (w : World) (h1 : xa.size ≤ 300) (h2 : xb.size ≤ 300) (h64 : I64 n) (ht : Tab w) :
 Calls Tryz.prog 3 #[.string xa, .string xb, .int .i64 n] w (RetB w true) := by
 have h1' : (xa.size : Int) ≤ 300 := by omega
 have h2' : (xb.size : Int) ≤ 300 := by omega
 have CVa : Hid (∀ W s, Hd W (.str (LA xa)) s → Calls Tryz.prog 11 #[vO (.str (LA xa)) s] W (RetB W (okT (LA xa)))) := fun W s h => validRT (LA xa) s W h
 have CVb : Hid (∀ W s, Hd W (.str (LA xb)) s → Calls Tryz.prog 11 #[vO (.str (LA xb)) s] W (RetB W (okT (LA xb)))) := fun W s h => validRT (LA xb) s W h
 have Ha : Hid (okT (LA xa) = true → xa.size ≤ 200) := ok200
 have Hb : Hid (okT (LA xb) = true → xb.size ≤ 200) := ok200
 have CI : Hid (∀ W, Tab W → Calls Tryz.prog 10 #[.int .i64 n] W (RetH W (inO n))) := fun W hT => intRH n W h64 hT
 generalize okT (LA xa) = va at CVa Ha
 generalize okT (LA xb) = vb at CVb Hb
 have HT := qh9 ht
 have HT0 := qh9 ht
 have HW := qh9 (Below.refl w.heap.size w)
 clear ht
 go_enter Tryz.func3, Tryz.ntmps3
 go_wp2_with fail
 with_reducible refine (first7 _ HT.out).mono ?_
 rintro e w1 ⟨rfl, hb⟩
 replace HT := qh9 (HT.out.below hb)
 replace HW := qc9 HW hb
 clear hb
 go_wp2_with fail
 with_reducible refine (textRH xa _).mono ?_
 rintro e w2 ⟨pa, rfl, ka, hb⟩
 replace HT := qh9 (HT.out.below hb)
 replace HW := qc9 HW hb
 clear hb
 replace ka := qh9 ka
 go_wp2_with fail
 with_reducible refine (textRH xb _).mono ?_
 rintro e w3 ⟨pb, rfl, kb, hb⟩
 replace HT := qh9 (HT.out.below hb)
 replace HW := qc9 HW hb
 replace ka := qh9 (ka.out.below hb)
 clear hb
 replace kb := qh9 kb
 go_wp2_with fail
 with_reducible refine (CI.out _ HT.out).mono ?_
 rintro e w4 ⟨pk, rfl, kk, hb⟩
 replace HT := qh9 (HT.out.below hb)
 replace HW := qc9 HW hb
 replace ka := qh9 (ka.out.below hb)
 replace kb := qh9 (kb.out.below hb)
 clear hb
 replace kk := qh9 kk
 obtain rfl : pa = .slice none 0 0 := ka.out.flat rfl
 obtain rfl : pb = .slice none 0 0 := kb.out.flat rfl
 obtain rfl : pk = .slice none 0 0 := kk.out.flat rfl
 clear CI
 have T3 := qh9 (Bx3.new w4 #[.int .i64 0, .string ⟨#[]⟩, .string ⟨#[]⟩, .string ⟨#[]⟩, .string ⟨#[]⟩, .string ⟨#[]⟩, .slice none 0 0] #[.int .i64 0, .string ⟨#[]⟩, .string ⟨#[]⟩, .string ⟨#[]⟩, .string ⟨#[]⟩, .string ⟨#[]⟩, .slice none 0 0] #[.int .i64 0, .string ⟨#[]⟩, .string ⟨#[]⟩, .string ⟨#[]⟩, .string ⟨#[]⟩, .string ⟨#[]⟩, .slice none 0 0])
 go_upto_region 6 with (first | ((with_reducible refine storeB (w1 := w4) (g := w4.heap.size) (b := .str (LA xa)) (p := (.slice none 0 0)) (.tmp 7) (.tmp 27) ?_ ?_ ?_ ?_ ka.out T3.out.b0 ?_); rfl; rfl; rfl; rfl) | ((with_reducible refine storeB (w1 := w4) (g := w4.heap.size + 1) (b := .str (LA xb)) (p := (.slice none 0 0)) (.tmp 8) (.tmp 29) ?_ ?_ ?_ ?_ kb.out T3.out.n1 ?_); rfl; rfl; rfl; rfl) | ((with_reducible refine storeB (w1 := w4) (g := w4.heap.size + 1 + 1) (b := inO n) (p := (.slice none 0 0)) (.tmp 9) (.tmp 31) ?_ ?_ ?_ ?_ kk.out T3.out.n2 ?_); rfl; rfl; rfl; rfl))
 have P := Pt3.new (w := w4) (o0 := .str (LA xa)) (o1 := .str (LA xb)) (o2 := inO n) (p0 := (.slice none 0 0)) (p1 := (.slice none 0 0)) (p2 := (.slice none 0 0)) (z0 := #[.int .i64 0, .string ⟨#[]⟩, .string ⟨#[]⟩, .string ⟨#[]⟩, .string ⟨#[]⟩, .string ⟨#[]⟩, .slice none 0 0]) (z1 := #[.int .i64 0, .string ⟨#[]⟩, .string ⟨#[]⟩, .string ⟨#[]⟩, .string ⟨#[]⟩, .string ⟨#[]⟩, .slice none 0 0]) (z2 := #[.int .i64 0, .string ⟨#[]⟩, .string ⟨#[]⟩, .string ⟨#[]⟩, .string ⟨#[]⟩, .string ⟨#[]⟩, .slice none 0 0])
 generalize World.setRow (World.setRow (World.setRow (((w4.alloc (.cells #[.int .i64 0, .string ⟨#[]⟩, .string ⟨#[]⟩, .string ⟨#[]⟩, .string ⟨#[]⟩, .string ⟨#[]⟩, .slice none 0 0] 27)).alloc (.cells #[.int .i64 0, .string ⟨#[]⟩, .string ⟨#[]⟩, .string ⟨#[]⟩, .string ⟨#[]⟩, .string ⟨#[]⟩, .slice none 0 0] 27)).alloc (.cells #[.int .i64 0, .string ⟨#[]⟩, .string ⟨#[]⟩, .string ⟨#[]⟩, .string ⟨#[]⟩, .string ⟨#[]⟩, .slice none 0 0] 27)) (w4.heap.size) (cellsO (.str (LA xa)) (.slice none 0 0)).toArray) (w4.heap.size + 1) (cellsO (.str (LA xb)) (.slice none 0 0)).toArray) (w4.heap.size + 1 + 1) (cellsO (inO n) (.slice none 0 0)).toArray = X at P ⊢
 have hb := P.bel
 replace HT := qh9 (HT.out.below hb)
 replace HW := qc9 HW hb
 replace ka := qh9 (ka.out.below hb)
 replace kb := qh9 (kb.out.below hb)
 replace kk := qh9 (kk.out.below hb)
 have B7 := qh9 P.b0
 have B8 := qh9 P.b1
 have B9 := qh9 P.b2
 clear P hb T3
 generalize w4.heap.size = g0 at *
 go_wp2_with (first | ((with_reducible refine loadB (.tmp 7) ?_ ?_ ?_ B7.out ?_); rfl; rfl; rfl) | ((with_reducible refine loadB (.tmp 8) ?_ ?_ ?_ B8.out ?_); rfl; rfl; rfl) | ((with_reducible refine loadB (.tmp 9) ?_ ?_ ?_ B9.out ?_); rfl; rfl; rfl) | ((with_reducible refine loadG (.tmp 7) ?_ ?_ ?_ B7.out ?_); rfl; rfl; rfl) | ((with_reducible refine loadG (.tmp 8) ?_ ?_ ?_ B8.out ?_); rfl; rfl; rfl) | ((with_reducible refine loadG (.tmp 9) ?_ ?_ ?_ B9.out ?_); rfl; rfl; rfl))
 with_reducible refine (CVa.out _ _ ka.out).mono ?_
 rintro e w5 ⟨rfl, hb⟩
 replace HT := qh9 (HT.out.below hb)
 replace HW := qc9 HW hb
 replace ka := qh9 (ka.out.below hb)
 replace kb := qh9 (kb.out.below hb)
 replace kk := qh9 (kk.out.below hb)
 replace B7 := qh9 (B7.out.keep hb)
 replace B8 := qh9 (B8.out.keep hb)
 replace B9 := qh9 (B9.out.keep hb)
 clear hb
 cases va with
 | false =>
  go_wp2
  go_ret
  exact ⟨rfl, HW.out⟩
 | true =>
  go_wp2_with (first | ((with_reducible refine loadB (.tmp 7) ?_ ?_ ?_ B7.out ?_); rfl; rfl; rfl) | ((with_reducible refine loadB (.tmp 8) ?_ ?_ ?_ B8.out ?_); rfl; rfl; rfl) | ((with_reducible refine loadB (.tmp 9) ?_ ?_ ?_ B9.out ?_); rfl; rfl; rfl) | ((with_reducible refine loadG (.tmp 7) ?_ ?_ ?_ B7.out ?_); rfl; rfl; rfl) | ((with_reducible refine loadG (.tmp 8) ?_ ?_ ?_ B8.out ?_); rfl; rfl; rfl) | ((with_reducible refine loadG (.tmp 9) ?_ ?_ ?_ B9.out ?_); rfl; rfl; rfl))
  with_reducible refine (CVb.out _ _ kb.out).mono ?_
  rintro e w6 ⟨rfl, hb⟩
  replace HT := qh9 (HT.out.below hb)
  replace HW := qc9 HW hb
  replace ka := qh9 (ka.out.below hb)
  replace kb := qh9 (kb.out.below hb)
  replace kk := qh9 (kk.out.below hb)
  replace B7 := qh9 (B7.out.keep hb)
  replace B8 := qh9 (B8.out.keep hb)
  replace B9 := qh9 (B9.out.keep hb)
  clear hb
  cases vb with
  | false =>
   go_wp2
   go_ret
   exact ⟨rfl, HW.out⟩
  | true =>
   have sa : xa.size ≤ 200 := Ha.out (by simp)
   have sb : xb.size ≤ 200 := Hb.out (by simp)
   clear CVa CVb Ha Hb h1 h2 h1' h2'
   have C24 : Hid (∀ W v, Ar W [inO n] v → Tab W → Calls Tryz.prog 13 #[.string ⟨#[98, 121, 116, 101, 45, 115, 116, 114, 105, 110, 103]⟩, v] W (RetH W (b24 n))) := fun W v hv hT => v24 n h64 v W hv hT
   have C23 : Hid (∀ W v, Ar W [.str (LA xa), inO n] v → Tab W → Calls Tryz.prog 13 #[.string ⟨#[115, 116, 114, 105, 110, 103, 45, 98, 121, 116, 101]⟩, v] W (RetH W (b23 xa n))) := fun W v hv hT => v23 xa sa n h64 v W hv hT
   have C20 : Hid (∀ W v, Ar W [.str (LA xa), .str (LA xb)] v → Tab W → Calls Tryz.prog 13 #[.string ⟨#[105, 110, 116, 101, 114, 110]⟩, v] W (RetH W (b20 xa xb))) := fun W v hv hT => v20 xa xb sa sb v W hv hT
   have C21 : Hid (∀ W v, Ar W [.str (LA xa), .str (LA xb)] v → Tab W → Calls Tryz.prog 17 #[.agg #[.string (BA lispB), .string ⟨#[115, 116, 114, 105, 110, 103, 45, 97, 112, 112, 101, 110, 100]⟩], v] W fun e w' => e = .returned (ap21 xa xb) ∧ Below W.heap.size W w') := fun W v hv hT => a21 xa xb sa sb v W hv hT
   have CE : Hid (∀ (o q : Ob) W s t, o = q → Hd W o s → Hd W q t → Calls Tryz.prog 12 #[vO o s, vO q t] W (RetB W true)) := fun o q W s t e h1 h2 => by
    have h := equalO o q s t W (Has W) (In.has W) h1 h2
    rw [decide_eq_true e] at h
    exact h
   have CEB : Hid (∀ (o q : Ob) W s t, Hd W o s → Hd W q t → Calls Tryz.prog 12 #[vO o s, vO q t] W (RetB W (decide (o = q)))) := fun o q W s t h1 h2 => equalO o q s t W (Has W) (In.has W) h1 h2
   go_upto_region 8 with fail
   obtain ⟨f0, f1, f2, f3, f4, f5, f6⟩ := Bx.c (W := w6) (a0 := .int .i64 1) (a1 := .string (nt (n : Rat))) (a2 := .string (dt (n : Rat))) (a3 := .string ⟨#[]⟩) (a4 := .string ⟨#[]⟩) (a5 := .string ⟨#[]⟩) (a6 := .slice none 0 0) B9.out
   go_wp2_with fail
   clear f0 f1 f2 f3 f4 f5 f6
   have hb : Below w6.heap.size w6 (w6.alloc (.cells #[.int .i64 1, .string (nt (n : Rat)), .string (dt (n : Rat)), .string ⟨#[]⟩, .string ⟨#[]⟩, .string ⟨#[]⟩, .slice none 0 0] 27)) := Below.alloc (Below.refl _ _) (Nat.le_refl _) _
   have hA0 : Ar (w6.alloc (.cells #[.int .i64 1, .string (nt (n : Rat)), .string (dt (n : Rat)), .string ⟨#[]⟩, .string ⟨#[]⟩, .string ⟨#[]⟩, .slice none 0 0] 27)) [inO n] (.slice (some ⟨w6.heap.size, 0, none⟩) 1 1) := ar_new1 kk.out
   generalize w6.alloc (.cells #[.int .i64 1, .string (nt (n : Rat)), .string (dt (n : Rat)), .string ⟨#[]⟩, .string ⟨#[]⟩, .string ⟨#[]⟩, .slice none 0 0] 27) = Y1 at hb hA0 ⊢
   replace HT := qh9 (HT.out.below hb)
   replace HW := qc9 HW hb
   replace ka := qh9 (ka.out.below hb)
   replace kb := qh9 (kb.out.below hb)
   replace kk := qh9 (kk.out.below hb)
   replace B7 := qh9 (B7.out.keep hb)
   replace B8 := qh9 (B8.out.keep hb)
   replace B9 := qh9 (B9.out.keep hb)
   have HA := qh9 hA0
   clear hb hA0
   refine (C24.out _ _ HA.out HT.out).mono ?_
   rintro e w7 ⟨p1, rfl, k1, hb⟩
   replace HT := qh9 (HT.out.below hb)
   replace HW := qc9 HW hb
   replace ka := qh9 (ka.out.below hb)
   replace kb := qh9 (kb.out.below hb)
   replace kk := qh9 (kk.out.below hb)
   replace B7 := qh9 (B7.out.keep hb)
   replace B8 := qh9 (B8.out.keep hb)
   replace B9 := qh9 (B9.out.keep hb)
   clear hb HA
   replace k1 := qh9 k1
   go_wp2_with fail
   with_reducible refine (textRH _ _).mono ?_
   rintro e w8 ⟨p2, rfl, k2, hb⟩
   replace HT := qh9 (HT.out.below hb)
   replace HW := qc9 HW hb
   replace ka := qh9 (ka.out.below hb)
   replace kb := qh9 (kb.out.below hb)
   replace kk := qh9 (kk.out.below hb)
   replace B7 := qh9 (B7.out.keep hb)
   replace B8 := qh9 (B8.out.keep hb)
   replace B9 := qh9 (B9.out.keep hb)
   replace k1 := qh9 (k1.out.below hb)
   clear hb
   replace k2 := qh9 k2
   go_wp2_with fail
   with_reducible refine (CEB.out _ _ _ _ _ k1.out k2.out).mono ?_
   rintro e w9 ⟨rfl, hb⟩
   replace HT := qh9 (HT.out.below hb)
   replace HW := qc9 HW hb
   replace ka := qh9 (ka.out.below hb)
   replace kb := qh9 (kb.out.below hb)
   replace kk := qh9 (kk.out.below hb)
   replace B7 := qh9 (B7.out.keep hb)
   replace B8 := qh9 (B8.out.keep hb)
   replace B9 := qh9 (B9.out.keep hb)
   replace k1 := qh9 (k1.out.below hb)
   replace k2 := qh9 (k2.out.below hb)
   clear hb
   clear k1 k2
   go_upto_region 9 with fail
   go_cut [50] (fun s50 wx => s50 = .bool (decide (0 ≤ n ∧ n ≤ 255)) ∧ Hid (wx = w9))
   case first =>
    by_cases q0 : 0 ≤ n
    · by_cases q1 : n ≤ 255
      · go_wp2_with fail
        all_goals (go_meet; exact ⟨(by first | exact congrArg Value.bool (decide_eq_true (by omega)).symm | exact congrArg Value.bool (decide_eq_false (by omega)).symm), qh9 rfl⟩)
      · go_wp2_with fail
        all_goals (go_meet; exact ⟨(by first | exact congrArg Value.bool (decide_eq_true (by omega)).symm | exact congrArg Value.bool (decide_eq_false (by omega)).symm), qh9 rfl⟩)
    · go_wp2_with fail
      all_goals (go_meet; exact ⟨(by first | exact congrArg Value.bool (decide_eq_true (by omega)).symm | exact congrArg Value.bool (decide_eq_false (by omega)).symm), qh9 rfl⟩)
   case rest =>
    obtain ⟨rfl, hw⟩ := hcut
    have hb : Below w9.heap.size w9 wc := by rw [hw.out]; exact Below.refl _ _
    replace HT := qh9 (HT.out.below hb)
    replace HW := qc9 HW hb
    replace ka := qh9 (ka.out.below hb)
    replace kb := qh9 (kb.out.below hb)
    replace kk := qh9 (kk.out.below hb)
    replace B7 := qh9 (B7.out.keep hb)
    replace B8 := qh9 (B8.out.keep hb)
    replace B9 := qh9 (B9.out.keep hb)
    clear hb hw
    obtain ⟨wq1, rfl⟩ : ∃ x : World, x = wc := ⟨_, rfl⟩
    go_upto_if 50 with fail
    go_cut [10] (fun s10 wx => s10 = .bool true ∧ Hid (Below wq1.heap.size wq1 wx))
    case first =>
     by_cases h255 : 0 ≤ n ∧ n ≤ 255
     · rw [decide_eq_true h255]
       obtain ⟨k, rfl⟩ : ∃ k : Nat, n = k := ⟨n.toNat, by omega⟩
       have hk : k < 256 := by omega
       go_upto_region 10 with fail
       refine wp_region_grow (l := _) 9 (by kernel_rfl) (by kernel_rfl) (fun i => [51, 52, 53, 54, 55, 56, 57, 58, 59].getD i 0) (LR [LV (vO (inO (k : Int)) (.slice none 0 0)), LAr [inO (k : Int)], LH (b24 (k : Int)), LV (.int .i64 (k : Int)), LV (.int .u8 (k : Int)), LBy k, LV (.string ⟨#[UInt8.ofNat k]⟩), LH (.str (LA ⟨#[UInt8.ofNat k]⟩)), LV (.bool true)]) (LR_mono (l := [LV (vO (inO (k : Int)) (.slice none 0 0)), LAr [inO (k : Int)], LH (b24 (k : Int)), LV (.int .i64 (k : Int)), LV (.int .u8 (k : Int)), LBy k, LV (.string ⟨#[UInt8.ofNat k]⟩), LH (.str (LA ⟨#[UInt8.ofNat k]⟩)), LV (.bool true)]) ⟨mLV _, mLAr _, mLH _, mLV _, mLV _, mLBy _, mLV _, mLH _, mLV _, trivial⟩) (by
        intro i j hi hj h
        exact inj_getD [51, 52, 53, 54, 55, 56, 57, 58, 59] (by decide) i j hi hj h) (by
        intro i hi
        exact lt_getD 130 [51, 52, 53, 54, 55, 56, 57, 58, 59] (by decide) i hi) ?step ?done
       case step =>
        intro i hi a w9 v lo hi' hoth hb hw
        have sl9 : a.tmps[9]? = some (.pointer (some ⟨g0 + 1 + 1, 0, none⟩)) := (hoth 9 (fun j hj => by
         have := ne_getD 9 [51, 52, 53, 54, 55, 56, 57, 58, 59] (by decide) j hj
         exact this)).trans rfl
        have sl2 : a.tmps[2]? = some (.int .i64 (k : Int)) := (hoth 2 (fun j hj => by
         have := ne_getD 2 [51, 52, 53, 54, 55, 56, 57, 58, 59] (by decide) j hj
         exact this)).trans rfl
        match i, hi with
        | 0, _ =>
         exact gw_box rfl (wanted_plain rfl) (.tmp 9) rfl (eval_of sl9) (B9.out.keep hb) ⟨_, rfl, Below.refl _ _, rfl⟩
        | 1, _ =>
         obtain ⟨s0, r0, _⟩ := hw 0 (by omega) (by kernel_rfl)
         have e0 : v 0 = vO (inO (k : Int)) (.slice none 0 0) := r0
         rw [e0] at s0
         exact gw_bs1 rfl (wanted_plain rfl) 51 rfl s0 ⟨_, rfl, Below.alloc (Below.refl _ _) (Nat.le_refl _) _, ar_new1 (kk.out.below hb)⟩
        | 2, _ =>
         obtain ⟨s1, r1, _⟩ := hw 1 (by omega) (by kernel_rfl)
         have e1 : Ar w9 [inO (k : Int)] (v 1) := r1
         refine gw_ct rfl (wanted_plain rfl) 13 52 _ _ _ rfl (fun v u w => by go_simp) s1 ?_
         with_reducible refine (C24.out w9 _ e1 (HT.out.below hb)).mono ?_
         rintro e w3 ⟨p, rfl, hp, hb3⟩
         exact ⟨_, rfl, _, rfl, hb3, p, rfl, hp⟩
        | 3, _ =>
         exact gw_move rfl (wanted_plain rfl) 2 _ rfl sl2 ⟨_, rfl, Below.refl _ _, rfl⟩
        | 4, _ =>
         obtain ⟨s0, r0, _⟩ := hw 3 (by omega) (by kernel_rfl)
         have e0 : v 3 = .int .i64 (k : Int) := r0
         rw [e0] at s0
         exact gw_cvB rfl (wanted_plain rfl) 54 _ (by omega) rfl s0 ⟨_, rfl, Below.refl _ _, rfl⟩
        | 5, _ =>
         obtain ⟨s0, r0, _⟩ := hw 4 (by omega) (by kernel_rfl)
         have e0 : v 4 = .int .u8 (k : Int) := r0
         rw [e0] at s0
         exact gw_bsB rfl (wanted_plain rfl) 55 _ rfl s0 ⟨_, rfl, Below.alloc (Below.refl _ _) (Nat.le_refl _) _, lby_new _ _⟩
        | 6, _ =>
         obtain ⟨s0, r0, _⟩ := hw 5 (by omega) (by kernel_rfl)
         obtain ⟨gg, e0, h0⟩ : LBy k (v 5) (lo 5) (hi' 5) w9 := r0
         rw [e0] at s0
         exact gw_cvS rfl (wanted_plain rfl) 56 _ _ (by omega) rfl s0 h0 ⟨_, rfl, Below.refl _ _, rfl⟩
        | 7, _ =>
         obtain ⟨s0, r0, _⟩ := hw 6 (by omega) (by kernel_rfl)
         have e0 : v 6 = .string ⟨#[UInt8.ofNat k]⟩ := r0
         rw [e0] at s0
         refine gw_t rfl (wanted_plain rfl) 9 57 _ _ rfl (fun v w => by go_simp) s0 ?_
         with_reducible refine (textRH _ w9).mono ?_
         rintro e w3 ⟨p, rfl, hp, hb3⟩
         exact ⟨_, rfl, _, rfl, hb3, p, rfl, hp⟩
        | 8, _ =>
         obtain ⟨s0, r0, _⟩ := hw 2 (by omega) (by kernel_rfl)
         obtain ⟨qq0, e0, kk0⟩ : LH (b24 (k : Int)) (v 2) (lo 2) (hi' 2) w9 := r0
         rw [e0] at s0
         obtain ⟨s1, r1, _⟩ := hw 7 (by omega) (by kernel_rfl)
         obtain ⟨qq1, e1, kk1⟩ : LH (.str (LA ⟨#[UInt8.ofNat k]⟩)) (v 7) (lo 7) (hi' 7) w9 := r1
         rw [e1] at s1
         refine gw_tt rfl (wanted_plain rfl) 12 53 58 _ _ _ rfl (fun v u w => by go_simp) s0 s1 ?_
         with_reducible refine (CE.out _ _ w9 _ _ (b24_in k hk) kk0 kk1).mono ?_
         rintro e w3 ⟨rfl, hb3⟩
         exact ⟨_, rfl, _, rfl, hb3, rfl⟩
       case done =>
        intro a w9 v lo hi' hdef hsz hoth hb hj hap
        obtain ⟨_, hv8, _, _⟩ := hj 8 (by omega)
        have ha := eq_puts hdef hsz hoth (fun i hi => (hj i hi).1)
        subst ha
        clear hj hoth hdef hsz hap
        change v 8 = _ at hv8
        simp only [puts, List.getD_cons_zero, List.getD_cons_succ, hv8]
        generalize v 0 = v0
        generalize v 1 = v1
        generalize v 2 = v2
        generalize v 3 = v3
        generalize v 4 = v4
        generalize v 5 = v5
        generalize v 6 = v6
        generalize v 7 = v7
        clear hv8
        simp only [Act.put, List.setIfInBounds_toArray, List.set_cons_zero, List.set_cons_succ]
        show wpList _ _ _ [_] _ _
        go_wp2
        go_meet
        exact ⟨rfl, qh9 hb⟩
     · rw [decide_eq_false h255]
       go_wp2
       go_meet
       exact ⟨congrArg Value.bool (decide_eq_true (b24_out h255)), qh9 (Below.refl _ _)⟩
    case rest =>
     obtain ⟨rfl, hb0⟩ := hcut
     obtain ⟨wd, rfl⟩ : ∃ wd : World, wd = wc := ⟨_, rfl⟩
     have hb := hb0.out
     replace HT := qh9 (HT.out.below hb)
     replace HW := qc9 HW hb
     replace ka := qh9 (ka.out.below hb)
     replace kb := qh9 (kb.out.below hb)
     replace kk := qh9 (kk.out.below hb)
     replace B7 := qh9 (B7.out.keep hb)
     replace B8 := qh9 (B8.out.keep hb)
     replace B9 := qh9 (B9.out.keep hb)
     clear hb hb0 C24
     go_wp2_with fail
     with_reducible refine (nilRH _).mono ?_
     rintro e w10 ⟨p3, rfl, k3, hb⟩
     replace HT := qh9 (HT.out.below hb)
     replace HW := qc9 HW hb
     replace ka := qh9 (ka.out.below hb)
     replace kb := qh9 (kb.out.below hb)
     replace kk := qh9 (kk.out.below hb)
     replace B7 := qh9 (B7.out.keep hb)
     replace B8 := qh9 (B8.out.keep hb)
     replace B9 := qh9 (B9.out.keep hb)
     clear hb
     replace k3 := qh9 k3
     obtain rfl : p3 = .slice none 0 0 := k3.out.flat rfl
     have lg11 : g0 + 1 + 1 < w10.heap.size := B9.out.lt
     have mg11 : w.heap.size ≤ w10.heap.size := HW.out.size
     have N1 := qh9 (Bx1.new w10 #[.int .i64 0, .string ⟨#[]⟩, .string ⟨#[]⟩, .string ⟨#[]⟩, .string ⟨#[]⟩, .string ⟨#[]⟩, .slice none 0 0])
     go_upto_region 12 with ((with_reducible refine storeB (w1 := w10) (g := w10.heap.size) (b := .nil) (p := (.slice none 0 0)) (.tmp 11) (.tmp 60) ?_ ?_ ?_ ?_ k3.out N1.out.b0 ?_); rfl; rfl; rfl; rfl)
     have Q := Pt1.new (w := w10) (o := .nil) (p := (.slice none 0 0)) (z := #[.int .i64 0, .string ⟨#[]⟩, .string ⟨#[]⟩, .string ⟨#[]⟩, .string ⟨#[]⟩, .string ⟨#[]⟩, .slice none 0 0])
     generalize World.setRow (w10.alloc (.cells #[.int .i64 0, .string ⟨#[]⟩, .string ⟨#[]⟩, .string ⟨#[]⟩, .string ⟨#[]⟩, .string ⟨#[]⟩, .slice none 0 0] 27)) w10.heap.size (cellsO (.nil) (.slice none 0 0)).toArray = X10 at Q ⊢
     have hb := Q.bel
     replace HT := qh9 (HT.out.below hb)
     replace HW := qc9 HW hb
     replace ka := qh9 (ka.out.below hb)
     replace kb := qh9 (kb.out.below hb)
     replace kk := qh9 (kk.out.below hb)
     replace B7 := qh9 (B7.out.keep hb)
     replace B8 := qh9 (B8.out.keep hb)
     replace B9 := qh9 (B9.out.keep hb)
     replace k3 := qh9 (k3.out.below hb)
     have B11 := qh9 Q.b0
     clear hb Q N1
     generalize w10.heap.size = g11 at *
     simp only [Act.put]
     go_cut [68] (fun s68 wx => s68 = .bool (decide (0 ≤ n ∧ n < xa.size)) ∧ Hid (wx = X10))
     case first =>
      by_cases q0 : 0 ≤ n
      · by_cases q1 : n < (xa.size : Int)
        · go_wp2_with fail
          all_goals (go_meet; exact ⟨(by first | exact congrArg Value.bool (decide_eq_true (by omega)).symm | exact congrArg Value.bool (decide_eq_false (by omega)).symm), qh9 rfl⟩)
        · go_wp2_with fail
          all_goals (go_meet; exact ⟨(by first | exact congrArg Value.bool (decide_eq_true (by omega)).symm | exact congrArg Value.bool (decide_eq_false (by omega)).symm), qh9 rfl⟩)
      · go_wp2_with fail
        all_goals (go_meet; exact ⟨(by first | exact congrArg Value.bool (decide_eq_true (by omega)).symm | exact congrArg Value.bool (decide_eq_false (by omega)).symm), qh9 rfl⟩)
     case rest =>
      obtain ⟨rfl, hw⟩ := hcut
      have hb : Below X10.heap.size X10 wc := by rw [hw.out]; exact Below.refl _ _
      replace HT := qh9 (HT.out.below hb)
      replace HW := qc9 HW hb
      replace ka := qh9 (ka.out.below hb)
      replace kb := qh9 (kb.out.below hb)
      replace kk := qh9 (kk.out.below hb)
      replace B7 := qh9 (B7.out.keep hb)
      replace B8 := qh9 (B8.out.keep hb)
      replace B9 := qh9 (B9.out.keep hb)
      replace k3 := qh9 (k3.out.below hb)
      replace B11 := qh9 (B11.out.keep hb)
      clear hb hw
      obtain ⟨wq2, rfl⟩ : ∃ x : World, x = wc := ⟨_, rfl⟩
      go_upto_if 68 with fail
      go_cut [11] (fun s11 wx => s11 = .pointer (some ⟨g11, 0, none⟩) ∧ Hid (Below w.heap.size w wx) ∧ Hid (Bx wx g0 (cellsO (.str (LA xa)) (.slice none 0 0)).toArray) ∧ Hid (Bx wx (g0 + 1) (cellsO (.str (LA xb)) (.slice none 0 0)).toArray) ∧ Hid (Bx wx (g0 + 1 + 1) (cellsO (inO n) (.slice none 0 0)).toArray) ∧ Hid (Bx wx g11 (cellsO (b23 xa n) (.slice none 0 0)).toArray))
      case first =>
       by_cases hx : 0 ≤ n ∧ n < xa.size
       · rw [decide_eq_true hx]
         obtain ⟨k, rfl⟩ : ∃ k : Nat, n = k := ⟨n.toNat, by omega⟩
         have hk : k < xa.size := by omega
         have hk' : (k : Int) < (xa.size : Int) := by omega
         have hby := (xa[k]).toNat_lt
         have e23 := b23_in xa k hk
         have hk0 : (0 : Int) ≤ (k : Int) := by omega
         have ew : wrap64 (xa[k].toNat : Int) = xa[k].toNat := IntWalk.wrap64_in _ (by omega)
         have CIN : Hid (∀ W, Tab W → Calls Tryz.prog 10  #[.int .i64 ((xa[k]).toNat : Int)] W (RetH W (b23 xa (k : Int)))) := fun W hT => by rw [e23]; exact intRH _ W ⟨by omega, by omega⟩ hT
         have q23 := flat23 xa (k : Int)
         clear hby hx e23
         generalize b23 xa (k : Int) = o23 at *
         go_wp2_with fail
         refine (CIN.out _ HT.out).mono ?_
         rintro e w7 ⟨p4, rfl, k4, hb⟩
         obtain rfl : p4 = .slice none 0 0 := k4.flat q23
         have HW7 := qc9 HW hb
         have C7 := qh9 (B7.out.keep hb)
         have C8 := qh9 (B8.out.keep hb)
         have C9 := qh9 (B9.out.keep hb)
         have C11 := qh9 (B11.out.keep hb)
         clear hb
         have C11' : Hid (Bx w7 g11 #[.int .i64 2, .string ⟨#[]⟩, .string ⟨#[]⟩, .string (BA lispB), .string ⟨#[110, 105, 108]⟩, .string ⟨#[]⟩, .slice none 0 0]) := C11
         go_wp2_with ((with_reducible refine storeB (w1 := w7) (g := g11) (b := o23) (p := .slice none 0 0) (.tmp 11) (.tmp 73) ?_ ?_ ?_ ?_ k4 C11'.out ?_); rfl; rfl; rfl; rfl)
         go_meet
         exact ⟨rfl, qh9 (below_setRowO HW7.out mg11 _), qh9 (C7.out.other (by omega)), qh9 (C8.out.other (by omega)), qh9 (C9.out.other (by omega)), qh9 C11.out.set⟩
       · rw [decide_eq_false hx]
         have e23 := b23_out xa hx
         go_wp2
         go_meet
         rw [e23]
         exact ⟨rfl, HW, B7, B8, B9, B11⟩
      case rest =>
       obtain ⟨rfl, HV, D7, D8, D9, D11⟩ := hcut
       obtain ⟨we, rfl⟩ : ∃ we : World, we = wc := ⟨_, rfl⟩
       clear B7 B8 B9 B11 HW HT k3
       have HT := qh9 (HT0.out.below HV.out)
       have HW := HV
       have B7 := D7
       have B8 := D8
       have B9 := D9
       have B11 := D11
       clear HV D7 D8 D9 D11
       have q23 := flat23 xa n
       have q20 := flat20 xa xb
       generalize b23 xa n = o23 at *
       clear ka kb kk
       have ka : Hid (Hd we (.str (LA xa)) (.slice none 0 0)) := qh9 (hd_flat rfl _)
       have kb : Hid (Hd we (.str (LA xb)) (.slice none 0 0)) := qh9 (hd_flat rfl _)
       have kk : Hid (Hd we (inO n) (.slice none 0 0)) := qh9 (hd_flat rfl _)
       have k23 : Hid (Hd we o23 (.slice none 0 0)) := qh9 (hd_flat q23 _)
       go_upto_region 15 with fail
       have S0 := Sy.SB.new we (.string xb) (.string xa)
       have hb : Below we.heap.size we (we.alloc (.cells #[.string xb, .string xa] 24)) := Below.alloc (Below.refl _ _) (Nat.le_refl _) _
       generalize we.alloc (.cells #[.string xb, .string xa] 24) = Z at S0 hb ⊢
       replace HT := qh9 (HT.out.below hb)
       replace HW := qc9 HW hb
       replace B7 := qh9 (B7.out.keep hb)
       replace B8 := qh9 (B8.out.keep hb)
       replace B9 := qh9 (B9.out.keep hb)
       replace B11 := qh9 (B11.out.keep hb)
       replace ka := qh9 (ka.out.below hb)
       replace kb := qh9 (kb.out.below hb)
       replace kk := qh9 (kk.out.below hb)
       replace k23 := qh9 (k23.out.below hb)
       have BS := qh9 S0
       clear S0 hb
       go_wp2_with fail
       with_reducible refine (nilRH _).mono ?_
       rintro e w11 ⟨p3, rfl, k3, hb⟩
       replace HT := qh9 (HT.out.below hb)
       replace HW := qc9 HW hb
       replace B7 := qh9 (B7.out.keep hb)
       replace B8 := qh9 (B8.out.keep hb)
       replace B9 := qh9 (B9.out.keep hb)
       replace B11 := qh9 (B11.out.keep hb)
       replace ka := qh9 (ka.out.below hb)
       replace kb := qh9 (kb.out.below hb)
       replace kk := qh9 (kk.out.below hb)
       replace k23 := qh9 (k23.out.below hb)
       replace BS := qh9 (BS.out.keep hb)
       clear hb
       replace k3 := qh9 k3
       obtain rfl : p3 = .slice none 0 0 := k3.out.flat rfl
       have lg13 : g0 + 1 + 1 < w11.heap.size := B9.out.lt
       have mg13 : w.heap.size ≤ w11.heap.size := HW.out.size
       have ng13 : g11 < w11.heap.size := B11.out.lt
       have N1 := qh9 (Bx1.new w11 #[.int .i64 0, .string ⟨#[]⟩, .string ⟨#[]⟩, .string ⟨#[]⟩, .string ⟨#[]⟩, .string ⟨#[]⟩, .slice none 0 0])
       go_upto_region 16 with ((with_reducible refine storeB (w1 := w11) (g := w11.heap.size) (b := .nil) (p := (.slice none 0 0)) (.tmp 13) (.tmp 77) ?_ ?_ ?_ ?_ k3.out N1.out.b0 ?_); rfl; rfl; rfl; rfl)
       have Q := Pt1.new (w := w11) (o := .nil) (p := (.slice none 0 0)) (z := #[.int .i64 0, .string ⟨#[]⟩, .string ⟨#[]⟩, .string ⟨#[]⟩, .string ⟨#[]⟩, .string ⟨#[]⟩, .slice none 0 0])
       generalize World.setRow (w11.alloc (.cells #[.int .i64 0, .string ⟨#[]⟩, .string ⟨#[]⟩, .string ⟨#[]⟩, .string ⟨#[]⟩, .string ⟨#[]⟩, .slice none 0 0] 27)) w11.heap.size (cellsO (.nil) (.slice none 0 0)).toArray = X11 at Q ⊢
       have hb := Q.bel
       replace HT := qh9 (HT.out.below hb)
       replace HW := qc9 HW hb
       replace B7 := qh9 (B7.out.keep hb)
       replace B8 := qh9 (B8.out.keep hb)
       replace B9 := qh9 (B9.out.keep hb)
       replace B11 := qh9 (B11.out.keep hb)
       replace ka := qh9 (ka.out.below hb)
       replace kb := qh9 (kb.out.below hb)
       replace kk := qh9 (kk.out.below hb)
       replace k23 := qh9 (k23.out.below hb)
       replace BS := qh9 (BS.out.keep hb)
       replace k3 := qh9 (k3.out.below hb)
       have B13 := qh9 Q.b0
       clear hb Q N1
       generalize w11.heap.size = g13 at *
       simp only [Act.put]
       have CSV : Hid (∀ W, Calls Tryz.prog 15 #[.agg #[.string xb, .string xa]] W (RetB W (Sy.symOk xb xa))) := fun W => Sy.validSR xb xa W
       have z20 := b20_in xa xb
       have z20' := b20_out xa xb
       generalize Sy.symOk xb xa = sv at *
       obtain ⟨s0, s1⟩ := And.intro BS.out.c0 BS.out.c1
       go_wp2_with fail
       clear s0 s1
       with_reducible refine (CSV.out _).mono ?_
       rintro e w12 ⟨rfl, hb⟩
       replace HT := qh9 (HT.out.below hb)
       replace HW := qc9 HW hb
       replace B7 := qh9 (B7.out.keep hb)
       replace B8 := qh9 (B8.out.keep hb)
       replace B9 := qh9 (B9.out.keep hb)
       replace B11 := qh9 (B11.out.keep hb)
       replace ka := qh9 (ka.out.below hb)
       replace kb := qh9 (kb.out.below hb)
       replace kk := qh9 (kk.out.below hb)
       replace k23 := qh9 (k23.out.below hb)
       replace BS := qh9 (BS.out.keep hb)
       replace k3 := qh9 (k3.out.below hb)
       replace B13 := qh9 (B13.out.keep hb)
       clear hb
       go_upto_if 79 with fail
       go_cut [13] (fun s13 wx => s13 = .pointer (some ⟨g13, 0, none⟩) ∧ Hid (Below w.heap.size w wx) ∧ Hid (Bx wx g0 (cellsO (.str (LA xa)) (.slice none 0 0)).toArray) ∧ Hid (Bx wx (g0 + 1) (cellsO (.str (LA xb)) (.slice none 0 0)).toArray) ∧ Hid (Bx wx (g0 + 1 + 1) (cellsO (inO n) (.slice none 0 0)).toArray) ∧ Hid (Bx wx g11 (cellsO (o23) (.slice none 0 0)).toArray) ∧ Hid (Bx wx g13 (cellsO (b20 xa xb) (.slice none 0 0)).toArray))
       case first =>
        cases sv with
        | false =>
         have e20 := z20' rfl
         go_wp2
         go_meet
         rw [e20]
         exact ⟨rfl, HW, B7, B8, B9, B11, B13⟩
        | true =>
         have e20 := z20 rfl
         obtain ⟨s0, s1⟩ := And.intro BS.out.c0 BS.out.c1
         go_wp2_with fail
         clear s0 s1
         refine (symbolRH xb xa _).mono ?_
         rintro e w8 ⟨p5, rfl, k5, hb⟩
         obtain rfl : p5 = .slice none 0 0 := k5.flat rfl
         have HW7 := qc9 HW hb
         have C7 := qh9 (B7.out.keep hb)
         have C8 := qh9 (B8.out.keep hb)
         have C9 := qh9 (B9.out.keep hb)
         have C11 := qh9 (B11.out.keep hb)
         have C13 := qh9 (B13.out.keep hb)
         clear hb
         have C13' : Hid (Bx w8 g13 #[.int .i64 2, .string ⟨#[]⟩, .string ⟨#[]⟩, .string (BA lispB), .string ⟨#[110, 105, 108]⟩, .string ⟨#[]⟩, .slice none 0 0]) := C13
         go_wp2_with ((with_reducible refine storeB (w1 := w8) (g := g13) (b := .sym (LA xb) (LA xa)) (p := .slice none 0 0) (.tmp 13) (.tmp 81) ?_ ?_ ?_ ?_ k5 C13'.out ?_); rfl; rfl; rfl; rfl)
         go_meet
         rw [e20]
         exact ⟨rfl, qh9 (below_setRowO HW7.out mg13 _), qh9 (C7.out.other (by omega)), qh9 (C8.out.other (by omega)), qh9 (C9.out.other (by omega)), qh9 (C11.out.other (by omega)), qh9 C13.out.set⟩
       case rest =>
        obtain ⟨rfl, HV, D7, D8, D9, D11, D13⟩ := hcut
        obtain ⟨wf, rfl⟩ : ∃ wf : World, wf = wc := ⟨_, rfl⟩
        clear B7 B8 B9 B11 B13 HW HT BS ka kb kk k23 k3 z20 z20' CSV
        have HT := qh9 (HT0.out.below HV.out)
        have HW := HV
        have B7 := D7
        have B8 := D8
        have B9 := D9
        have B11 := D11
        have B13 := D13
        clear HV D7 D8 D9 D11 D13 HT0
        generalize b20 xa xb = o20 at *
        have ka : Hid (Hd wf (.str (LA xa)) (.slice none 0 0)) := qh9 (hd_flat rfl _)
        have kb : Hid (Hd wf (.str (LA xb)) (.slice none 0 0)) := qh9 (hd_flat rfl _)
        have kk : Hid (Hd wf (inO n) (.slice none 0 0)) := qh9 (hd_flat rfl _)
        have k23 : Hid (Hd wf o23 (.slice none 0 0)) := qh9 (hd_flat q23 _)
        have k20 : Hid (Hd wf o20 (.slice none 0 0)) := qh9 (hd_flat q20 _)
        clear q23 q20
        have hsz : xa.size + xb.size ≤ 1000000 := by omega
        have HS0 := qh9 sa
        have HS1 := qh9 sb
        clear sa sb
        obtain ⟨sv, ev, hsv, hs7, hcase⟩ : ∃ (sv : Array Value) (ev : Int), ap21 xa xb = .tuple #[.agg sv, .int .i64 ev] ∧ (sv.size = 7 ∧ sv.all (·.oneCell') = true) ∧ ((xa.size + xb.size ≤ 200 ∧ sv = (cellsO (.str (LA xa ++ LA xb)) (.slice none 0 0)).toArray ∧ ev = 0) ∨ (¬ xa.size + xb.size ≤ 200 ∧ ev = 2)) := by
         unfold ap21
         by_cases hl : xa.size + xb.size ≤ 200
         · rw [if_pos hl]
           exact ⟨_, 0, rfl, ⟨by rw [List.size_toArray, cellsO_length], Pair.one (w := wf) (S := Has wf) (show Pair wf (Has wf) (.str (LA xa ++ LA xb)) (.slice none 0 0) from rfl)⟩, .inl ⟨hl, rfl, rfl⟩⟩
         · rw [if_neg hl]
           exact ⟨zeroC, 2, rfl, ⟨rfl, by simp [zeroC, Value.oneCell']⟩, .inr ⟨hl, rfl⟩⟩
        rw [hsv] at C21
        clear hsv
        have HS7 := qh9 hs7
        have HCS := qh9 hcase
        clear hs7 hcase
        go_upto_region 18 with fail
        refine wp_region_growU (l := _) 9 (by kernel_rfl) (by kernel_rfl) (fun i => [83, 84, 85, 86, 87, 82, 88, 89, 14].getD i 0) (LR [LV (.agg #[.string (BA lispB), .string ⟨#[115, 116, 114, 105, 110, 103, 45, 97, 112, 112, 101, 110, 100]⟩]), LV (vO (.str (LA xa)) (.slice none 0 0)), LV (vO (.str (LA xb)) (.slice none 0 0)), LAr [.str (LA xa), .str (LA xb)], LV (.tuple #[.agg sv, .int .i64 ev]), LV (.tuple #[.agg sv, .int .i64 ev]), LV (.agg sv), LV (.int .i64 ev), LBx]) (LR_mono (l := [LV (.agg #[.string (BA lispB), .string ⟨#[115, 116, 114, 105, 110, 103, 45, 97, 112, 112, 101, 110, 100]⟩]), LV (vO (.str (LA xa)) (.slice none 0 0)), LV (vO (.str (LA xb)) (.slice none 0 0)), LAr [.str (LA xa), .str (LA xb)], LV (.tuple #[.agg sv, .int .i64 ev]), LV (.tuple #[.agg sv, .int .i64 ev]), LV (.agg sv), LV (.int .i64 ev), LBx]) ⟨mLV _, mLV _, mLV _, mLAr _, mLV _, mLV _, mLV _, mLV _, mLBx, trivial⟩) (by
         intro i j hi hj h
         exact inj_getD [83, 84, 85, 86, 87, 82, 88, 89, 14] (by decide) i j hi hj h) (by
         intro i hi
         exact lt_getD 130 [83, 84, 85, 86, 87, 82, 88, 89, 14] (by decide) i hi) [7] (by kernel_rfl) 8 6 (by omega) (by omega) (by kernel_rfl) (by kernel_rfl) _ rfl rfl rfl rfl
         (fun _ _ _ _ h => h) (fun cs => cs = sv) (fun _ _ _ _ h => ⟨sv, h, HS7.out, rfl⟩) ?step ?stepL ?done
        case step =>
         intro i hi a w9 v lo hi' hoth hb hw
         have sl7 : a.tmps[7]? = some (.pointer (some ⟨g0, 0, none⟩)) := (hoth 7 (fun j hj => by
          have := ne_getD 7 [83, 84, 85, 86, 87, 82, 88, 89, 14] (by decide) j hj
          exact this)).trans rfl
         have sl8 : a.tmps[8]? = some (.pointer (some ⟨g0 + 1, 0, none⟩)) := (hoth 8 (fun j hj => by
          have := ne_getD 8 [83, 84, 85, 86, 87, 82, 88, 89, 14] (by decide) j hj
          exact this)).trans rfl
         match i, hi with
         | 0, _ =>
          refine gw_c rfl (wanted_plain rfl) 18 _ _ rfl (fun v w => by go_simp) ?_
          with_reducible refine (lispO _ w9).mono ?_
          rintro e w3 ⟨rfl, hb3⟩
          exact ⟨_, rfl, _, rfl, hb3, rfl⟩
         | 1, _ =>
          exact gw_box rfl (wanted_plain rfl) (.tmp 7) rfl (eval_of sl7) (B7.out.keep hb) ⟨_, rfl, Below.refl _ _, rfl⟩
         | 2, _ =>
          exact gw_box rfl (wanted_plain rfl) (.tmp 8) rfl (eval_of sl8) (B8.out.keep hb) ⟨_, rfl, Below.refl _ _, rfl⟩
         | 3, _ =>
          obtain ⟨ss0, rr0, _⟩ := hw 1 (by omega) (by kernel_rfl)
          have ee0 : v 1 = vO (.str (LA xa)) (.slice none 0 0) := rr0
          rw [ee0] at ss0
          obtain ⟨ss1, rr1, _⟩ := hw 2 (by omega) (by kernel_rfl)
          have ee1 : v 2 = vO (.str (LA xb)) (.slice none 0 0) := rr1
          rw [ee1] at ss1
          exact gw_bs2 rfl (wanted_plain rfl) 84 85 rfl ss0 ss1 ⟨_, rfl, Below.alloc (Below.refl _ _) (Nat.le_refl _) _, ar_new2 (ka.out.below hb) (kb.out.below hb)⟩
         | 4, _ =>
          obtain ⟨ss0, rr0, _⟩ := hw 0 (by omega) (by kernel_rfl)
          have ee0 : v 0 = .agg #[.string (BA lispB), .string ⟨#[115, 116, 114, 105, 110, 103, 45, 97, 112, 112, 101, 110, 100]⟩] := rr0
          rw [ee0] at ss0
          obtain ⟨ss1, rr1, _⟩ := hw 3 (by omega) (by kernel_rfl)
          have ee1 : Ar w9 [.str (LA xa), .str (LA xb)] (v 3) := rr1
          refine gw_tt rfl (wanted_plain rfl) 17 83 86 _ _ _ rfl (fun v u w => by go_simp) ss0 ss1 ?_
          with_reducible refine (C21.out w9 _ ee1 (HT.out.below hb)).mono ?_
          rintro e w3 ⟨rfl, hb3⟩
          exact ⟨_, rfl, _, rfl, hb3, rfl⟩
         | 5, _ =>
          obtain ⟨ss0, rr0, _⟩ := hw 4 (by omega) (by kernel_rfl)
          have ee0 : v 4 = .tuple #[.agg sv, .int .i64 ev] := rr0
          rw [ee0] at ss0
          exact gw_move rfl (wanted_plain rfl) 87 _ rfl ss0 ⟨_, rfl, Below.refl _ _, rfl⟩
         | 6, _ =>
          obtain ⟨ss0, rr0, _⟩ := hw 5 (by omega) (by kernel_rfl)
          have ee0 : v 5 = .tuple #[.agg sv, .int .i64 ev] := rr0
          rw [ee0] at ss0
          exact gw_ext0 rfl (wanted_plain rfl) 82 _ _ rfl ss0 ⟨_, rfl, Below.refl _ _, rfl⟩
         | 7, _ =>
          obtain ⟨ss0, rr0, _⟩ := hw 5 (by omega) (by kernel_rfl)
          have ee0 : v 5 = .tuple #[.agg sv, .int .i64 ev] := rr0
          rw [ee0] at ss0
          exact gw_ext1 rfl (wanted_plain rfl) 82 _ _ rfl ss0 ⟨_, rfl, Below.refl _ _, rfl⟩
         | 8, _ =>
          exact grow_allocO rfl rfl rfl ⟨_, rfl, Below.alloc (Below.refl _ _) (Nat.le_refl _) _, rfl, heap_alloc_new _ _, by simp⟩
        case stepL =>
         intro i hi hl a w1 w9 v lo hi' hw
         match i, hi with
         | 0, _ => exact absurd hl (by decide)
         | 1, _ => exact absurd hl (by decide)
         | 2, _ => exact absurd hl (by decide)
         | 3, _ => exact absurd hl (by decide)
         | 4, _ => exact absurd hl (by decide)
         | 5, _ => exact absurd hl (by decide)
         | 6, _ => exact absurd hl (by decide)
         | 7, _ =>
          obtain ⟨ss0, rr0⟩ := hw 5 (by omega) (by kernel_rfl)
          have ee0 : v 5 = .tuple #[.agg sv, .int .i64 ev] := rr0
          rw [ee0] at ss0
          exact gw_ext1 rfl (wanted_plain rfl) 82 _ _ rfl ss0 ⟨_, rfl, rfl, rfl⟩
         | 8, _ => exact absurd hl (by decide)
        case done =>
         intro a w9 v lo hi' cs hgo hdef hsz' hoth hb hj hap hv6 kp hv8 B14'
         obtain rfl : cs = sv := hgo
         obtain ⟨_, _, hlo8, _⟩ := hj 8 (by omega)
         obtain ⟨_, hv7, _, _⟩ := hj 7 (by omega)
         change v 7 = _ at hv7
         have ha := eq_puts hdef hsz' hoth (fun i hi => (hj i hi).1)
         subst ha
         clear hj hoth hdef hsz' hap
         have hX := below_setRowO hb hlo8 cs
         have bX := Bx.set (y := cs) B14'
         generalize World.setRow w9 (lo 8) cs = W18 at hX bX ⊢
         clear hb B14'
         simp only [puts, List.getD_cons_zero, List.getD_cons_succ, hv6, hv7, hv8]
         generalize v 0 = v0
         generalize v 1 = v1
         generalize v 2 = v2
         generalize v 3 = v3
         generalize v 4 = v4
         generalize v 5 = v5
         clear hv6 hv7 hv8
         generalize lo 8 = g14 at *
         simp only [Act.put, List.setIfInBounds_toArray, List.set_cons_zero, List.set_cons_succ]
         show wpList _ _ _ [_] _ _
         have hb := hX
         clear hX
         replace HT := qh9 (HT.out.below hb)
         replace HW := qc9 HW hb
         replace B7 := qh9 (B7.out.keep hb)
         replace B8 := qh9 (B8.out.keep hb)
         replace B9 := qh9 (B9.out.keep hb)
         replace B11 := qh9 (B11.out.keep hb)
         replace ka := qh9 (ka.out.below hb)
         replace kb := qh9 (kb.out.below hb)
         replace kk := qh9 (kk.out.below hb)
         replace k23 := qh9 (k23.out.below hb)
         replace B13 := qh9 (B13.out.keep hb)
         replace k20 := qh9 (k20.out.below hb)
         have B14 := qh9 bX
         clear hb bX
         rcases HCS.out with ⟨hl, hcs, rfl⟩ | ⟨hl, rfl⟩
         · subst hcs
           have k21 : Hid (Hd W18 (.str (LA xa ++ LA xb)) (.slice none 0 0)) := qh9 (hd_flat rfl _)
           have hl1 : ¬ (200 : Int) < (xa.size : Int) + (xb.size : Int) := by omega
           clear HCS HS7
           go_upto_region 21 with fail
           refine wp_region_grow (l := _) 29 (by kernel_rfl) (by kernel_rfl) (fun i => [101, 102, 103, 104, 105, 106, 107, 108, 109, 110, 111, 112, 113, 114, 115, 116, 117, 118, 119, 120, 121, 122, 123, 124, 125, 126, 127, 128, 129].getD i 0) (LR [LV (.bool true), LV (.bool true), LV (.int .i64 0), LV (.bool true), LV (.bool true), LV (.bool true), LV (vO (.str (LA xa ++ LA xb)) (.slice none 0 0)), LV (.string xa), LV (.string xb), LV (.string (xa ++ xb)), LH (.str (LA (xa ++ xb))), LV (.bool true), LV (.bool true), LV (.bool true), LV (vO (.str (LA xa)) (.slice none 0 0)), LV (vO (inO n) (.slice none 0 0)), LAr [.str (LA xa), inO n], LH (o23), LV (vO (o23) (.slice none 0 0)), LV (.bool true), LV (.bool true), LV (.bool true), LV (vO (.str (LA xa)) (.slice none 0 0)), LV (vO (.str (LA xb)) (.slice none 0 0)), LAr [.str (LA xa), .str (LA xb)], LH (o20), LV (vO (o20) (.slice none 0 0)), LV (.bool true), LV (.bool true)]) (LR_mono (l := [LV (.bool true), LV (.bool true), LV (.int .i64 0), LV (.bool true), LV (.bool true), LV (.bool true), LV (vO (.str (LA xa ++ LA xb)) (.slice none 0 0)), LV (.string xa), LV (.string xb), LV (.string (xa ++ xb)), LH (.str (LA (xa ++ xb))), LV (.bool true), LV (.bool true), LV (.bool true), LV (vO (.str (LA xa)) (.slice none 0 0)), LV (vO (inO n) (.slice none 0 0)), LAr [.str (LA xa), inO n], LH (o23), LV (vO (o23) (.slice none 0 0)), LV (.bool true), LV (.bool true), LV (.bool true), LV (vO (.str (LA xa)) (.slice none 0 0)), LV (vO (.str (LA xb)) (.slice none 0 0)), LAr [.str (LA xa), .str (LA xb)], LH (o20), LV (vO (o20) (.slice none 0 0)), LV (.bool true), LV (.bool true)]) ⟨mLV _, mLV _, mLV _, mLV _, mLV _, mLV _, mLV _, mLV _, mLV _, mLV _, mLH _, mLV _, mLV _, mLV _, mLV _, mLV _, mLAr _, mLH _, mLV _, mLV _, mLV _, mLV _, mLV _, mLV _, mLAr _, mLH _, mLV _, mLV _, mLV _, trivial⟩) (by
            intro i j hi hj h
            exact inj_getD [101, 102, 103, 104, 105, 106, 107, 108, 109, 110, 111, 112, 113, 114, 115, 116, 117, 118, 119, 120, 121, 122, 123, 124, 125, 126, 127, 128, 129] (by decide) i j hi hj h) (by
            intro i hi
            exact lt_getD 130 [101, 102, 103, 104, 105, 106, 107, 108, 109, 110, 111, 112, 113, 114, 115, 116, 117, 118, 119, 120, 121, 122, 123, 124, 125, 126, 127, 128, 129] (by decide) i hi) ?step ?done
           case step =>
            intro i hi a w9 v lo hi' hoth hb hw
            have sl10 : a.tmps[10]? = some (.bool true) := (hoth 10 (fun j hj => by
             have := ne_getD 10 [101, 102, 103, 104, 105, 106, 107, 108, 109, 110, 111, 112, 113, 114, 115, 116, 117, 118, 119, 120, 121, 122, 123, 124, 125, 126, 127, 128, 129] (by decide) j hj
             exact this)).trans rfl
            have sl15 : a.tmps[15]? = some (.int .i64 0) := (hoth 15 (fun j hj => by
             have := ne_getD 15 [101, 102, 103, 104, 105, 106, 107, 108, 109, 110, 111, 112, 113, 114, 115, 116, 117, 118, 119, 120, 121, 122, 123, 124, 125, 126, 127, 128, 129] (by decide) j hj
             exact this)).trans rfl
            have sl14 : a.tmps[14]? = some (.pointer (some ⟨g14, 0, none⟩)) := (hoth 14 (fun j hj => by
             have := ne_getD 14 [101, 102, 103, 104, 105, 106, 107, 108, 109, 110, 111, 112, 113, 114, 115, 116, 117, 118, 119, 120, 121, 122, 123, 124, 125, 126, 127, 128, 129] (by decide) j hj
             exact this)).trans rfl
            have sl0 : a.tmps[0]? = some (.string xa) := (hoth 0 (fun j hj => by
             have := ne_getD 0 [101, 102, 103, 104, 105, 106, 107, 108, 109, 110, 111, 112, 113, 114, 115, 116, 117, 118, 119, 120, 121, 122, 123, 124, 125, 126, 127, 128, 129] (by decide) j hj
             exact this)).trans rfl
            have sl1 : a.tmps[1]? = some (.string xb) := (hoth 1 (fun j hj => by
             have := ne_getD 1 [101, 102, 103, 104, 105, 106, 107, 108, 109, 110, 111, 112, 113, 114, 115, 116, 117, 118, 119, 120, 121, 122, 123, 124, 125, 126, 127, 128, 129] (by decide) j hj
             exact this)).trans rfl
            have sl7 : a.tmps[7]? = some (.pointer (some ⟨g0, 0, none⟩)) := (hoth 7 (fun j hj => by
             have := ne_getD 7 [101, 102, 103, 104, 105, 106, 107, 108, 109, 110, 111, 112, 113, 114, 115, 116, 117, 118, 119, 120, 121, 122, 123, 124, 125, 126, 127, 128, 129] (by decide) j hj
             exact this)).trans rfl
            have sl9 : a.tmps[9]? = some (.pointer (some ⟨g0 + 1 + 1, 0, none⟩)) := (hoth 9 (fun j hj => by
             have := ne_getD 9 [101, 102, 103, 104, 105, 106, 107, 108, 109, 110, 111, 112, 113, 114, 115, 116, 117, 118, 119, 120, 121, 122, 123, 124, 125, 126, 127, 128, 129] (by decide) j hj
             exact this)).trans rfl
            have sl11 : a.tmps[11]? = some (.pointer (some ⟨g11, 0, none⟩)) := (hoth 11 (fun j hj => by
             have := ne_getD 11 [101, 102, 103, 104, 105, 106, 107, 108, 109, 110, 111, 112, 113, 114, 115, 116, 117, 118, 119, 120, 121, 122, 123, 124, 125, 126, 127, 128, 129] (by decide) j hj
             exact this)).trans rfl
            have sl8 : a.tmps[8]? = some (.pointer (some ⟨g0 + 1, 0, none⟩)) := (hoth 8 (fun j hj => by
             have := ne_getD 8 [101, 102, 103, 104, 105, 106, 107, 108, 109, 110, 111, 112, 113, 114, 115, 116, 117, 118, 119, 120, 121, 122, 123, 124, 125, 126, 127, 128, 129] (by decide) j hj
             exact this)).trans rfl
            have sl13 : a.tmps[13]? = some (.pointer (some ⟨g13, 0, none⟩)) := (hoth 13 (fun j hj => by
             have := ne_getD 13 [101, 102, 103, 104, 105, 106, 107, 108, 109, 110, 111, 112, 113, 114, 115, 116, 117, 118, 119, 120, 121, 122, 123, 124, 125, 126, 127, 128, 129] (by decide) j hj
             exact this)).trans rfl
            match i, hi with
            | 0, _ =>
             exact gw_move rfl (wanted_plain rfl) 10 _ rfl sl10 ⟨_, rfl, Below.refl _ _, rfl⟩
            | 1, _ =>
             obtain ⟨s0, r0, _⟩ := hw 0 (by omega) (by kernel_rfl)
             have e0 : v 0 = .bool true := r0
             rw [e0] at s0
             exact gw_move rfl (wanted_plain rfl) 101 _ rfl s0 ⟨_, rfl, Below.refl _ _, rfl⟩
            | 2, _ =>
             obtain ⟨s9, r9, _⟩ := hw 1 (by omega) (by kernel_rfl)
             have e9 : v 1 = .bool true := r9
             rw [e9] at s9
             exact gw_move rfl (wanted_on rfl rfl rfl s9 rfl) 15 _ rfl sl15 ⟨_, rfl, Below.refl _ _, rfl⟩
            | 3, _ =>
             obtain ⟨s9, r9, _⟩ := hw 1 (by omega) (by kernel_rfl)
             have e9 : v 1 = .bool true := r9
             rw [e9] at s9
             obtain ⟨s0, r0, _⟩ := hw 2 (by omega) (by kernel_rfl)
             have e0 : v 2 = .int .i64 0 := r0
             rw [e0] at s0
             exact gw_eqcE rfl (wanted_on rfl rfl rfl s9 rfl) 103 _ _ rfl s0 ⟨_, rfl, Below.refl _ _, rfl⟩
            | 4, _ =>
             obtain ⟨s0, r0, _⟩ := hw 1 (by omega) (by kernel_rfl)
             have e0 : v 1 = .bool true := r0
             rw [e0] at s0
             obtain ⟨s1, r1, _⟩ := hw 3 (by omega) (by kernel_rfl)
             have e1 : v 3 = .bool true := r1
             rw [e1] at s1
             exact gw_pickT rfl (wanted_plain rfl) 102 104 _ _ rfl s0 s1 ⟨_, rfl, Below.refl _ _, rfl⟩
            | 5, _ =>
             obtain ⟨s0, r0, _⟩ := hw 4 (by omega) (by kernel_rfl)
             have e0 : v 4 = .bool true := r0
             rw [e0] at s0
             exact gw_move rfl (wanted_plain rfl) 105 _ rfl s0 ⟨_, rfl, Below.refl _ _, rfl⟩
            | 6, _ =>
             obtain ⟨s9, r9, _⟩ := hw 5 (by omega) (by kernel_rfl)
             have e9 : v 5 = .bool true := r9
             rw [e9] at s9
             exact gw_box rfl (wanted_on rfl rfl rfl s9 rfl) (.tmp 14) rfl (eval_of sl14) (B14.out.keep hb) ⟨_, rfl, Below.refl _ _, rfl⟩
            | 7, _ =>
             obtain ⟨s9, r9, _⟩ := hw 5 (by omega) (by kernel_rfl)
             have e9 : v 5 = .bool true := r9
             rw [e9] at s9
             exact gw_move rfl (wanted_on rfl rfl rfl s9 rfl) 0 _ rfl sl0 ⟨_, rfl, Below.refl _ _, rfl⟩
            | 8, _ =>
             obtain ⟨s9, r9, _⟩ := hw 5 (by omega) (by kernel_rfl)
             have e9 : v 5 = .bool true := r9
             rw [e9] at s9
             exact gw_move rfl (wanted_on rfl rfl rfl s9 rfl) 1 _ rfl sl1 ⟨_, rfl, Below.refl _ _, rfl⟩
            | 9, _ =>
             obtain ⟨s9, r9, _⟩ := hw 5 (by omega) (by kernel_rfl)
             have e9 : v 5 = .bool true := r9
             rw [e9] at s9
             obtain ⟨s0, r0, _⟩ := hw 7 (by omega) (by kernel_rfl)
             have e0 : v 7 = .string xa := r0
             rw [e0] at s0
             obtain ⟨s1, r1, _⟩ := hw 8 (by omega) (by kernel_rfl)
             have e1 : v 8 = .string xb := r1
             rw [e1] at s1
             exact gw_cat rfl (wanted_on rfl rfl rfl s9 rfl) 108 109 _ _ rfl s0 s1 hsz ⟨_, rfl, Below.refl _ _, rfl⟩
            | 10, _ =>
             obtain ⟨s9, r9, _⟩ := hw 5 (by omega) (by kernel_rfl)
             have e9 : v 5 = .bool true := r9
             rw [e9] at s9
             obtain ⟨s0, r0, _⟩ := hw 9 (by omega) (by kernel_rfl)
             have e0 : v 9 = .string (xa ++ xb) := r0
             rw [e0] at s0
             refine gw_t rfl (wanted_on rfl rfl rfl s9 rfl) 9 110 _ _ rfl (fun v w => by go_simp) s0 ?_
             with_reducible refine (textRH _ w9).mono ?_
             rintro e w3 ⟨p, rfl, hp, hb3⟩
             exact ⟨_, rfl, _, rfl, hb3, p, rfl, hp⟩
            | 11, _ =>
             obtain ⟨s9, r9, _⟩ := hw 5 (by omega) (by kernel_rfl)
             have e9 : v 5 = .bool true := r9
             rw [e9] at s9
             obtain ⟨s0, r0, _⟩ := hw 6 (by omega) (by kernel_rfl)
             have e0 : v 6 = vO (.str (LA xa ++ LA xb)) (.slice none 0 0) := r0
             rw [e0] at s0
             obtain ⟨s1, r1, _⟩ := hw 10 (by omega) (by kernel_rfl)
             obtain ⟨qq1, e1, kk1⟩ : LH (.str (LA (xa ++ xb))) (v 10) (lo 10) (hi' 10) w9 := r1
             rw [e1] at s1
             refine gw_tt rfl (wanted_on rfl rfl rfl s9 rfl) 12 107 111 _ _ _ rfl (fun v u w => by go_simp) s0 s1 ?_
             with_reducible refine (CE.out _ _ w9 _ _ (app_str xa xb) (k21.out.below hb) kk1).mono ?_
             rintro e w3 ⟨rfl, hb3⟩
             exact ⟨_, rfl, _, rfl, hb3, rfl⟩
            | 12, _ =>
             obtain ⟨s0, r0, _⟩ := hw 5 (by omega) (by kernel_rfl)
             have e0 : v 5 = .bool true := r0
             rw [e0] at s0
             obtain ⟨s1, r1, _⟩ := hw 11 (by omega) (by kernel_rfl)
             have e1 : v 11 = .bool true := r1
             rw [e1] at s1
             exact gw_pickT rfl (wanted_plain rfl) 106 112 _ _ rfl s0 s1 ⟨_, rfl, Below.refl _ _, rfl⟩
            | 13, _ =>
             obtain ⟨s0, r0, _⟩ := hw 12 (by omega) (by kernel_rfl)
             have e0 : v 12 = .bool true := r0
             rw [e0] at s0
             exact gw_move rfl (wanted_plain rfl) 113 _ rfl s0 ⟨_, rfl, Below.refl _ _, rfl⟩
            | 14, _ =>
             obtain ⟨s9, r9, _⟩ := hw 13 (by omega) (by kernel_rfl)
             have e9 : v 13 = .bool true := r9
             rw [e9] at s9
             exact gw_box rfl (wanted_on rfl rfl rfl s9 rfl) (.tmp 7) rfl (eval_of sl7) (B7.out.keep hb) ⟨_, rfl, Below.refl _ _, rfl⟩
            | 15, _ =>
             obtain ⟨s9, r9, _⟩ := hw 13 (by omega) (by kernel_rfl)
             have e9 : v 13 = .bool true := r9
             rw [e9] at s9
             exact gw_box rfl (wanted_on rfl rfl rfl s9 rfl) (.tmp 9) rfl (eval_of sl9) (B9.out.keep hb) ⟨_, rfl, Below.refl _ _, rfl⟩
            | 16, _ =>
             obtain ⟨s9, r9, _⟩ := hw 13 (by omega) (by kernel_rfl)
             have e9 : v 13 = .bool true := r9
             rw [e9] at s9
             obtain ⟨s0, r0, _⟩ := hw 14 (by omega) (by kernel_rfl)
             have e0 : v 14 = vO (.str (LA xa)) (.slice none 0 0) := r0
             rw [e0] at s0
             obtain ⟨s1, r1, _⟩ := hw 15 (by omega) (by kernel_rfl)
             have e1 : v 15 = vO (inO n) (.slice none 0 0) := r1
             rw [e1] at s1
             exact gw_bs2 rfl (wanted_on rfl rfl rfl s9 rfl) 115 116 rfl s0 s1 ⟨_, rfl, Below.alloc (Below.refl _ _) (Nat.le_refl _) _, ar_new2 (ka.out.below hb) (kk.out.below hb)⟩
            | 17, _ =>
             obtain ⟨s9, r9, _⟩ := hw 13 (by omega) (by kernel_rfl)
             have e9 : v 13 = .bool true := r9
             rw [e9] at s9
             obtain ⟨s1, r1, _⟩ := hw 16 (by omega) (by kernel_rfl)
             have e1 : Ar w9 [.str (LA xa), inO n] (v 16) := r1
             refine gw_ct rfl (wanted_on rfl rfl rfl s9 rfl) 13 117 _ _ _ rfl (fun v u w => by go_simp) s1 ?_
             with_reducible refine (C23.out w9 _ e1 (HT.out.below hb)).mono ?_
             rintro e w3 ⟨p, rfl, hp, hb3⟩
             exact ⟨_, rfl, _, rfl, hb3, p, rfl, hp⟩
            | 18, _ =>
             obtain ⟨s9, r9, _⟩ := hw 13 (by omega) (by kernel_rfl)
             have e9 : v 13 = .bool true := r9
             rw [e9] at s9
             exact gw_box rfl (wanted_on rfl rfl rfl s9 rfl) (.tmp 11) rfl (eval_of sl11) (B11.out.keep hb) ⟨_, rfl, Below.refl _ _, rfl⟩
            | 19, _ =>
             obtain ⟨s9, r9, _⟩ := hw 13 (by omega) (by kernel_rfl)
             have e9 : v 13 = .bool true := r9
             rw [e9] at s9
             obtain ⟨s0, r0, _⟩ := hw 17 (by omega) (by kernel_rfl)
             obtain ⟨qq0, e0, kk0⟩ : LH (o23) (v 17) (lo 17) (hi' 17) w9 := r0
             rw [e0] at s0
             obtain ⟨s1, r1, _⟩ := hw 18 (by omega) (by kernel_rfl)
             have e1 : v 18 = vO (o23) (.slice none 0 0) := r1
             rw [e1] at s1
             refine gw_tt rfl (wanted_on rfl rfl rfl s9 rfl) 12 118 119 _ _ _ rfl (fun v u w => by go_simp) s0 s1 ?_
             with_reducible refine (CE.out _ _ w9 _ _ (rfl) kk0 (k23.out.below hb)).mono ?_
             rintro e w3 ⟨rfl, hb3⟩
             exact ⟨_, rfl, _, rfl, hb3, rfl⟩
            | 20, _ =>
             obtain ⟨s0, r0, _⟩ := hw 13 (by omega) (by kernel_rfl)
             have e0 : v 13 = .bool true := r0
             rw [e0] at s0
             obtain ⟨s1, r1, _⟩ := hw 19 (by omega) (by kernel_rfl)
             have e1 : v 19 = .bool true := r1
             rw [e1] at s1
             exact gw_pickT rfl (wanted_plain rfl) 114 120 _ _ rfl s0 s1 ⟨_, rfl, Below.refl _ _, rfl⟩
            | 21, _ =>
             obtain ⟨s0, r0, _⟩ := hw 20 (by omega) (by kernel_rfl)
             have e0 : v 20 = .bool true := r0
             rw [e0] at s0
             exact gw_move rfl (wanted_plain rfl) 121 _ rfl s0 ⟨_, rfl, Below.refl _ _, rfl⟩
            | 22, _ =>
             obtain ⟨s9, r9, _⟩ := hw 21 (by omega) (by kernel_rfl)
             have e9 : v 21 = .bool true := r9
             rw [e9] at s9
             exact gw_box rfl (wanted_on rfl rfl rfl s9 rfl) (.tmp 7) rfl (eval_of sl7) (B7.out.keep hb) ⟨_, rfl, Below.refl _ _, rfl⟩
            | 23, _ =>
             obtain ⟨s9, r9, _⟩ := hw 21 (by omega) (by kernel_rfl)
             have e9 : v 21 = .bool true := r9
             rw [e9] at s9
             exact gw_box rfl (wanted_on rfl rfl rfl s9 rfl) (.tmp 8) rfl (eval_of sl8) (B8.out.keep hb) ⟨_, rfl, Below.refl _ _, rfl⟩
            | 24, _ =>
             obtain ⟨s9, r9, _⟩ := hw 21 (by omega) (by kernel_rfl)
             have e9 : v 21 = .bool true := r9
             rw [e9] at s9
             obtain ⟨s0, r0, _⟩ := hw 22 (by omega) (by kernel_rfl)
             have e0 : v 22 = vO (.str (LA xa)) (.slice none 0 0) := r0
             rw [e0] at s0
             obtain ⟨s1, r1, _⟩ := hw 23 (by omega) (by kernel_rfl)
             have e1 : v 23 = vO (.str (LA xb)) (.slice none 0 0) := r1
             rw [e1] at s1
             exact gw_bs2 rfl (wanted_on rfl rfl rfl s9 rfl) 123 124 rfl s0 s1 ⟨_, rfl, Below.alloc (Below.refl _ _) (Nat.le_refl _) _, ar_new2 (ka.out.below hb) (kb.out.below hb)⟩
            | 25, _ =>
             obtain ⟨s9, r9, _⟩ := hw 21 (by omega) (by kernel_rfl)
             have e9 : v 21 = .bool true := r9
             rw [e9] at s9
             obtain ⟨s1, r1, _⟩ := hw 24 (by omega) (by kernel_rfl)
             have e1 : Ar w9 [.str (LA xa), .str (LA xb)] (v 24) := r1
             refine gw_ct rfl (wanted_on rfl rfl rfl s9 rfl) 13 125 _ _ _ rfl (fun v u w => by go_simp) s1 ?_
             with_reducible refine (C20.out w9 _ e1 (HT.out.below hb)).mono ?_
             rintro e w3 ⟨p, rfl, hp, hb3⟩
             exact ⟨_, rfl, _, rfl, hb3, p, rfl, hp⟩
            | 26, _ =>
             obtain ⟨s9, r9, _⟩ := hw 21 (by omega) (by kernel_rfl)
             have e9 : v 21 = .bool true := r9
             rw [e9] at s9
             exact gw_box rfl (wanted_on rfl rfl rfl s9 rfl) (.tmp 13) rfl (eval_of sl13) (B13.out.keep hb) ⟨_, rfl, Below.refl _ _, rfl⟩
            | 27, _ =>
             obtain ⟨s9, r9, _⟩ := hw 21 (by omega) (by kernel_rfl)
             have e9 : v 21 = .bool true := r9
             rw [e9] at s9
             obtain ⟨s0, r0, _⟩ := hw 25 (by omega) (by kernel_rfl)
             obtain ⟨qq0, e0, kk0⟩ : LH (o20) (v 25) (lo 25) (hi' 25) w9 := r0
             rw [e0] at s0
             obtain ⟨s1, r1, _⟩ := hw 26 (by omega) (by kernel_rfl)
             have e1 : v 26 = vO (o20) (.slice none 0 0) := r1
             rw [e1] at s1
             refine gw_tt rfl (wanted_on rfl rfl rfl s9 rfl) 12 126 127 _ _ _ rfl (fun v u w => by go_simp) s0 s1 ?_
             with_reducible refine (CE.out _ _ w9 _ _ (rfl) kk0 (k20.out.below hb)).mono ?_
             rintro e w3 ⟨rfl, hb3⟩
             exact ⟨_, rfl, _, rfl, hb3, rfl⟩
            | 28, _ =>
             obtain ⟨s0, r0, _⟩ := hw 21 (by omega) (by kernel_rfl)
             have e0 : v 21 = .bool true := r0
             rw [e0] at s0
             obtain ⟨s1, r1, _⟩ := hw 27 (by omega) (by kernel_rfl)
             have e1 : v 27 = .bool true := r1
             rw [e1] at s1
             exact gw_pickT rfl (wanted_plain rfl) 122 128 _ _ rfl s0 s1 ⟨_, rfl, Below.refl _ _, rfl⟩
            | k + 29, h => exact absurd h (by omega)
           case done =>
            intro a w9 v lo hi' hdef hsz hoth hb hj hap
            obtain ⟨_, hv28, _, _⟩ := hj 28 (by omega)
            have ha := eq_puts hdef hsz hoth (fun i hi => (hj i hi).1)
            subst ha
            clear hj hoth hdef hsz hap
            change v 28 = _ at hv28
            simp only [puts, List.getD_cons_zero, List.getD_cons_succ, hv28]
            generalize v 0 = v0
            generalize v 1 = v1
            generalize v 2 = v2
            generalize v 3 = v3
            generalize v 4 = v4
            generalize v 5 = v5
            generalize v 6 = v6
            generalize v 7 = v7
            generalize v 8 = v8
            generalize v 9 = v9
            generalize v 10 = v10
            generalize v 11 = v11
            generalize v 12 = v12
            generalize v 13 = v13
            generalize v 14 = v14
            generalize v 15 = v15
            generalize v 16 = v16
            generalize v 17 = v17
            generalize v 18 = v18
            generalize v 19 = v19
            generalize v 20 = v20
            generalize v 21 = v21
            generalize v 22 = v22
            generalize v 23 = v23
            generalize v 24 = v24
            generalize v 25 = v25
            generalize v 26 = v26
            generalize v 27 = v27
            clear hv28
            simp only [Act.put, List.setIfInBounds_toArray, List.set_cons_zero, List.set_cons_succ]
            show wpList _ _ _ [_] _ _
            replace HT := qh9 (HT.out.below hb)
            replace HW := qc9 HW hb
            replace B7 := qh9 (B7.out.keep hb)
            replace B8 := qh9 (B8.out.keep hb)
            replace B9 := qh9 (B9.out.keep hb)
            replace B11 := qh9 (B11.out.keep hb)
            replace ka := qh9 (ka.out.below hb)
            replace kb := qh9 (kb.out.below hb)
            replace kk := qh9 (kk.out.below hb)
            replace k23 := qh9 (k23.out.below hb)
            replace B13 := qh9 (B13.out.keep hb)
            replace k20 := qh9 (k20.out.below hb)
            replace B14 := qh9 (B14.out.keep hb)
            replace k21 := qh9 (k21.out.below hb)
            clear hb
            go_wp2
            go_ret
            exact ⟨rfl, HW.out⟩
         · have hl1 : (200 : Int) < (xa.size : Int) + (xb.size : Int) := by omega
           clear HCS HS7
           go_wp2
           go_ret
           exact ⟨rfl, HW.out⟩
theorem lawBytes (xa xb : ByteArray) (n : Int) (w : World) (_ : xa.size ≤ maxLen) (_ : xb.size ≤ maxLen) (h64 : I64 n) (ht : Tab w) :
 Calls Tryz.prog 3 #[.string xa, .string xb, .int .i64 n] w (RetB w true) := by
 by_cases h1 : xa.size ≤ 300
 · by_cases h2 : xb.size ≤ 300
   · exact lawBytesC xa xb n w h1 h2 h64 ht
   · exact lawBytesB xa xb n w h1 h2 ht
 · exact lawBytesA xa xb n w h1 ht
end Go.Proofs.YtbffnoodpoagcaaGreatDoor
