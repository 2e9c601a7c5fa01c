/- Made terms without memory; slices of names; the four variables. -/
import Derived.Test.YtinjhnnpbejccaaGreatDoorH19
import Derived.Test.YtinjhnnpbejccaaGreatDoorH21
import Derived.Test.YtinjhnnpbejccaaGreatDoorH17
import Derived.Deep.Upon
namespace Go.Proofs.YtinjhnnpbejccaaGreatDoor
open Go Go.RowKit
set_option linter.unusedVariables false
set_option maxHeartbeats 32000000
set_option maxRecDepth 100000
def uN (s : ByteArray) : Nm := (BA [117, 115, 101, 114], s)
def vN4 : List Nm := [uN ⟨#[120]⟩, uN ⟨#[121]⟩, uN ⟨#[122]⟩, uN ⟨#[117]⟩]
def vAt (n : Int) : Nm := vN4.getD (n % 4).toNat (uN ⟨#[120]⟩)
def fNs : List ByteArray := [⟨#[102]⟩, ⟨#[103]⟩, ⟨#[104]⟩]
def fAt (n : Int) : Nm := uN (fNs.getD (n % 3).toNat ⟨#[102]⟩)
mutual
def mtP (PO : Rw → Ob → Prop) : Rw → Tm → Prop
 | .mk k n s l, t => if k % 5 < 2 then t = .var (vAt n) else if k % 5 = 2 then ∃ o, t = .con o ∧ PO (.mk n n s l) o ∧ OkO (4 * (1 + Rw.cnts l)) o else ∃ ts, t = .app (fAt n) ts ∧ ts.length = min 3 l.length ∧ mtsP PO l ts
def mtsP (PO : Rw → Ob → Prop) : List Rw → List Tm → Prop
 | _, [] => True
 | [], _ :: _ => False
 | r :: rs, t :: ts => mtP PO r t ∧ mtsP PO rs ts
end
theorem mtsP_nil (PO : Rw → Ob → Prop) (l : List Rw) : mtsP PO l [] := by cases l <;> (unfold mtsP; trivial)
theorem mtsP_snoc (PO : Rw → Ob → Prop) : ∀ (l : List Rw) (ts : List Tm) (t : Tm) (hi : ts.length < l.length), mtsP PO l ts → mtP PO l[ts.length] t → mtsP PO l (ts ++ [t])
 | r :: rs, [], t, _, _, h => by
  show mtsP PO (r :: rs) [t]
  unfold mtsP
  exact ⟨h, mtsP_nil _ _⟩
 | r :: rs, x :: ts, t, hi, h, h' => by
  unfold mtsP at h
  show mtsP PO (r :: rs) (x :: (ts ++ [t]))
  unfold mtsP
  exact ⟨h.1, mtsP_snoc PO rs ts t (by simpa using hi) h.2 h'⟩
mutual
theorem mtP_nodes {PO : Rw → Ob → Prop} : ∀ (r : Rw) (t : Tm), mtP PO r t → t.nodes ≤ 4 * r.cnt
 | .mk k n s l, t, h => by
  unfold mtP at h
  unfold Rw.cnt
  split at h
  · subst h; unfold Tm.nodes; omega
  · split at h
    · obtain ⟨o, rfl, _, ho⟩ := h
      unfold Tm.nodes; exact ho.nodes
    · obtain ⟨ts, rfl, _, hs⟩ := h
      have := mtsP_nodes l ts hs
      unfold Tm.nodes; omega
theorem mtsP_nodes {PO : Rw → Ob → Prop} : ∀ (l : List Rw) (ts : List Tm), mtsP PO l ts → Tm.nodesL ts ≤ 4 * Rw.cnts l
 | _, [], _ => by unfold Tm.nodesL; omega
 | [], _ :: _, h => by unfold mtsP at h; exact h.elim
 | r :: rs, t :: ts, h => by
  unfold mtsP at h
  unfold Tm.nodesL Rw.cnts
  have h1 := mtP_nodes r t h.1
  have h2 := mtsP_nodes rs ts h.2
  omega
end
def NsV (w : World) (S : Nat → Prop) (l : List Nm) (v : Value) : Prop := ∃ A c, v = .slice A l.length c ∧ l.length ≤ c ∧
 (0 < l.length → ∃ b o, A = some ⟨b, o, none⟩ ∧ (S b ∧ Plain w b) ∧ ∀ i (hi : i < l.length), w.cell? ⟨b, o + i * 2, none⟩ = some (.string l[i].1) ∧ w.cell? ⟨b, o + i * 2 + 1, none⟩ = some (.string l[i].2))
theorem NsV.keep {w w' : World} {S S' : Nat → Prop} (hS : ∀ b, S b → S' b) (hk : ∀ b, S b → w'.heap[b]? = w.heap[b]?) {l : List Nm} {v : Value} (h : NsV w S l v) : NsV w' S' l v := by
 obtain ⟨A, c, h1, h2, h3⟩ := h
 refine ⟨A, c, h1, h2, fun hl => ?_⟩
 obtain ⟨b, o, e, hb, hr⟩ := h3 hl
 exact ⟨b, o, e, ⟨hS b hb.1, hb.2.keep (hk b hb.1)⟩, fun i hi => ⟨(World.cell?_of_block (a := ⟨b, o + i * 2, none⟩) (hk b hb.1)).trans (hr i hi).1, (World.cell?_of_block (a := ⟨b, o + i * 2 + 1, none⟩) (hk b hb.1)).trans (hr i hi).2⟩⟩
theorem NsV.more {w : World} {S S' : Nat → Prop} {l : List Nm} {v : Value} (h : NsV w S l v) (hS : ∀ b, S b → S' b) : NsV w S' l v := h.keep hS fun _ _ => rfl
def RetNs (w : World) (l : List Nm) (e : Ending) (w' : World) : Prop := ∃ v, e = .returned v ∧ NsV w' (Upto w w' NoB) l v ∧ Below w.heap.size w w'
theorem varsT (n : Nat) (hn : n ≤ 4) (w : World) : Calls Tryz.prog 47 #[.int .i64 n] w (RetNs w (vN4.take n)) := by
 have HU : ∀ (s : ByteArray) (W : World), Below w.heap.size w W → Calls Tryz.prog 46 #[.string s] W (fun e w' => e = .returned (.agg #[.string (BA [117, 115, 101, 114]), .string s]) ∧ Below w.heap.size w w') := fun s W hb => by
  refine (userO s W).mono ?_
  rintro e w' ⟨rfl, h⟩
  exact ⟨rfl, hb.trans (h.mono hb.size)⟩
 have hQ : Hid (∀ W, Below w.heap.size w W → RetNs w (vN4.take n) (.returned (.slice (some ⟨W.heap.size, 0, none⟩) n 4)) (W.alloc (.cells #[.string (BA [117, 115, 101, 114]), .string ⟨#[120]⟩, .string (BA [117, 115, 101, 114]), .string ⟨#[121]⟩, .string (BA [117, 115, 101, 114]), .string ⟨#[122]⟩, .string (BA [117, 115, 101, 114]), .string ⟨#[117]⟩] 23))) := fun W hb => by
  have hl : (vN4.take n).length = n := by simp [vN4]; omega
  refine ⟨_, rfl, ⟨some ⟨W.heap.size, 0, none⟩, 4, by rw [hl], by omega, fun _ => ⟨W.heap.size, 0, rfl, ⟨.inr ⟨hb.size, by simp⟩, _, _, heap_alloc_new W _⟩, fun i hi => ?_⟩⟩, Below.alloc hb hb.size _⟩
  have hi4 : i < 4 := by omega
  have h0 : (vN4.take n)[i] = vN4[i]'(by show i < 4; omega) := by simp
  rw [h0, Nat.zero_add, cell_of_row _ _ _ _ _ _ (heap_alloc_new W _), cell_of_row _ _ _ _ _ _ (heap_alloc_new W _)]
  match i, hi4 with
  | 0, _ => exact ⟨rfl, rfl⟩
  | 1, _ => exact ⟨rfl, rfl⟩
  | 2, _ => exact ⟨rfl, rfl⟩
  | 3, _ => exact ⟨rfl, rfl⟩
 have hm : min (n : Int) 4 = n := by omega
 have hm2 : max 0 (n : Int) = n := by omega
 have hb0 : Below w.heap.size w w := Below.refl _ _
 go_enter Tryz.func47, Tryz.ntmps47
 go_wp2_with fail
 refine (HU ⟨#[120]⟩ _ hb0).mono ?_
 rintro e w1 ⟨rfl, hb1⟩
 go_wp2_with fail
 refine (HU ⟨#[121]⟩ _ hb1).mono ?_
 rintro e w2 ⟨rfl, hb2⟩
 go_wp2_with fail
 refine (HU ⟨#[122]⟩ _ hb2).mono ?_
 rintro e w3 ⟨rfl, hb3⟩
 go_wp2_with fail
 refine (HU ⟨#[117]⟩ _ hb3).mono ?_
 rintro e w4 ⟨rfl, hb4⟩
 have HB := hI hb4
 clear hb1 hb2 hb3 hb4 hb0 HU
 go_wp2_with fail
 go_ret
 exact hQ.out _ HB.out
def RetXP (w : World) (m : Nat) (P : Ob → Prop) (e : Ending) (w' : World) : Prop := ∃ o p, e = .returned (vO o p) ∧ Pair w' (Upto w w' NoB) o p ∧ Below w.heap.size w w' ∧ OkO m o ∧ P o
def OMk (PO : Rw → Ob → Prop) : Prop := ∀ (r : Rw) (cs : List Value) (w : World) (S : Nat → Prop), In S w → RawAt w S r cs → r.ok → Tab w → Calls Tryz.prog 16 #[.agg cs.toArray] w (RetXP w (4 * r.cnt - 1) (PO r))
theorem oMkT : OMk fun _ _ => True := fun r cs w S hS h hok ht => (objectO r cs w S hS h hok ht).mono fun e w' ⟨o, p, h1, h2, h3, h4⟩ => ⟨o, p, h1, h2, h3, h4, trivial⟩
def RetTP (w : World) (P : Tm → Prop) (e : Ending) (w' : World) : Prop := ∃ t, RetT w NoB t e w' ∧ P t
theorem OkO.le {m m' : Nat} {o : Ob} (h : OkO m o) (hm : m ≤ m') : OkO m' o := ⟨h.bd, Nat.le_trans h.nodes hm, h.tx⟩
structure MdW (w W : World) (raw : Array Value) : Prop where
 bel : Below w.heap.size w W
 b0 : W.heap[w.heap.size]? = some (.cells raw 26 (0, 0))
 b1 : TB W (w.heap.size + 1) zT
theorem MdW.below {w W W' : World} {raw : Array Value} (h : MdW w W raw) (hb : Below W.heap.size W W') : MdW w W' raw := by
 have h1 := h.b1.lt
 exact ⟨h.bel.trans (hb.mono (by omega)), (hb.block _ (by omega)).trans h.b0, h.b1.keep hb⟩
theorem MdW.cell {w W : World} {raw : Array Value} (h : MdW w W raw) (i : Nat) : W.cell? ⟨w.heap.size, i, none⟩ = raw[i]? := cell_of_row _ _ _ _ _ _ h.b0
theorem MdW.new (w : World) (raw : Array Value) : MdW w ((w.alloc (.cells raw 26)).alloc (.cells #[.int .i64 0, .string ⟨#[]⟩, .string ⟨#[]⟩, .int .i64 0, .string ⟨#[]⟩, .string ⟨#[]⟩, .string ⟨#[]⟩, .string ⟨#[]⟩, .string ⟨#[]⟩, .slice none 0 0, .slice none 0 0] 35)) raw :=
 ⟨Below.alloc (Below.alloc (Below.refl _ _) (Nat.le_refl _) _) (by simp) _, heap_alloc2_old w _ _, heap_new_at (by simp)⟩
theorem madeVar (PO : Rw → Ob → Prop) (k n : Int) (s : ByteArray) (l : List Rw) (A : Option Addr) (c : Nat) (w : World) (hq : k % 5 < 2) (hk : I64 k) (hn : I64 n) :
 Calls Tryz.prog 15 #[.agg #[.int .i64 k, .int .i64 n, .string s, .slice A l.length c]] w (RetTP w (mtP PO (.mk k n s l))) := by
 have HK := hI hk
 have HN := hI hn
 have HQ := hI hq
 have HP : Hid (mtP PO (.mk k n s l) (.var (vAt n))) := by
  show mtP PO (.mk k n s l) (.var (vAt n))
  unfold mtP; rw [if_pos hq]
 clear hk hn hq
 go_enter Tryz.func15, Tryz.ntmps15
 go_wp2_with fail
 have M := MdW.new w #[.int .i64 k, .int .i64 n, .string s, .slice A l.length c]
 refine (modO k 5 _ HK.out.1 HK.out.2 (by decide) (by decide)).mono ?_
 rintro e w1 ⟨rfl, rfl⟩
 generalize ((w.alloc (.cells #[.int .i64 k, .int .i64 n, .string s, .slice A l.length c] 26)).alloc (.cells #[.int .i64 0, .string ⟨#[]⟩, .string ⟨#[]⟩, .int .i64 0, .string ⟨#[]⟩, .string ⟨#[]⟩, .string ⟨#[]⟩, .string ⟨#[]⟩, .string ⟨#[]⟩, .slice none 0 0, .slice none 0 0] 35)) = W at M ⊢
 have hq := HQ.out
 have q0 := Int.emod_nonneg k (show (5 : Int) ≠ 0 by decide)
 clear HQ
 generalize k % 5 = q at hq q0 ⊢
 go_wp2_with fail
 refine (varsT 4 (by decide) W).mono ?_
 rintro e w2 ⟨v, rfl, hv, hb2⟩
 have HM := hI (M.below hb2)
 have HV : Hid (NsV w2 (fun b => w.heap.size ≤ b ∧ b < w2.heap.size) vN4 v) := hv.more fun b hb => by
  rcases hb with h | ⟨h1, h2⟩
  · exact h.elim
  · exact ⟨Nat.le_trans M.bel.size h1, h2⟩
 clear M hv hb2
 have d1 : w2.cell? ⟨w.heap.size, 1, none⟩ = some (.int .i64 n) := HM.out.cell 1
 have CM := hI (modO n 4 w2 HN.out.1 HN.out.2 (by decide) (by decide))
 have j0 := Int.emod_nonneg n (show (4 : Int) ≠ 0 by decide)
 have j1 := Int.emod_lt_of_pos n (show (0 : Int) < 4 by decide)
 obtain ⟨i, hi⟩ : ∃ i : Nat, n % 4 = i := ⟨(n % 4).toNat, by omega⟩
 have hvA : vAt n = vN4.getD i (uN ⟨#[120]⟩) := by unfold vAt; rw [hi]; rfl
 rw [hvA] at HP
 rw [hi] at CM j0 j1
 obtain ⟨Av, cv, rfl, hlc, hr⟩ := HV.out
 obtain ⟨bv, ov, rfl, hbv, hcell⟩ := hr (by decide)
 have hi4 : i < vN4.length := by show i < 4; omega
 obtain ⟨c0, c1⟩ := hcell i hi4
 have hgd : vN4.getD i (uN ⟨#[120]⟩) = vN4[i] := by rw [List.getD_eq_getElem?_getD, List.getElem?_eq_getElem hi4]; rfl
 rw [hgd] at HP
 have hi4' : i < 4 := hi4
 have hlc' : 4 ≤ cv := hlc
 change Hid (mtP PO _ (.var vN4[i])) at HP
 have VR := hI (varR vN4[i] w2 NoB)
 generalize vN4[i] = x at *
 have hlen : vN4.length = 4 := rfl
 rw [hlen]
 clear hlen hgd hi4 hcell hlc hr hvA hi HV
 go_wp2_with fail
 refine CM.out.mono ?_
 rintro e w3 ⟨rfl, rfl⟩
 go_wp2_with fail
 refine VR.out.mono ?_
 rintro e w4 ⟨cs, rfl, h4, hb4⟩
 have HB := hI (HM.out.below hb4)
 have O1 := hI h4.o11
 have HB1 := hI HB.out.b1
 have H4 : Hid (TmAt w4 (Upto w w4 NoB) (.var x) cs) := h4.more fun b hb => up3 HM.out.bel (Below.refl _ _) b hb
 clear h4 hb4 c0 c1 d1 VR CM
 go_wp2_with ((with_reducible refine storeTb (cs := cs) (.tmp 2) (.tmp 20) ?_ ?_ ?_ ?_ HB1.out ?_ ?_ ?_ ?_); rfl; rfl; rfl; rfl; rfl; exact O1.out.1; exact O1.out.2)
 exact retTb rfl rfl (HB1.out.set _) O1.out.1 ⟨_, ⟨_, rfl, TmAt.boxed H4.out HB1.out.nb _, below_setRowO HB.out.bel (by omega) _⟩, HP.out⟩
theorem madeCon (PO : Rw → Ob → Prop) (hPO : OMk PO) (k n : Int) (s : ByteArray) (l : List Rw) (A : Option Addr) (c : Nat) (w : World) (S : Nat → Prop) (hS : In S w) (hR : RawAt w S (.mk k n s l) [.int .i64 k, .int .i64 n, .string s, .slice A l.length c]) (hok : (Rw.mk k n s l).ok) (ht : Tab w) (hq : k % 5 = 2) (hk : I64 k) (hn : I64 n) :
 Calls Tryz.prog 15 #[.agg #[.int .i64 k, .int .i64 n, .string s, .slice A l.length c]] w (RetTP w (mtP PO (.mk k n s l))) := by
 have HK := hI hk
 have HN := hI hn
 have HQ := hI hq
 have HP : Hid (∀ o, PO (.mk n n s l) o → OkO (4 * (1 + Rw.cnts l)) o → mtP PO (.mk k n s l) (.con o)) := fun o h h' => by
  unfold mtP; rw [if_neg (by omega), if_pos hq]; exact ⟨o, rfl, h, h'⟩
 have CO : Hid (∀ W, Below w.heap.size w W → Calls Tryz.prog 16 #[.agg #[.int .i64 n, .int .i64 n, .string s, .slice A l.length c]] W (RetXP W (4 * (1 + Rw.cnts l) - 1) (PO (.mk n n s l)))) := fun W hb => by
  have h1 := hR.below hS hb
  have h2 : RawAt W S (.mk n n s l) [.int .i64 n, .int .i64 n, .string s, .slice A l.length c] := by
   unfold RawAt at h1 ⊢
   obtain ⟨A', c', e, _, h⟩ := h1
   refine ⟨A', c', ?_, hn, h⟩
   simp only [List.cons.injEq, and_true, true_and] at e ⊢
   exact e
  have h3 := hPO (.mk n n s l) _ W S (hS.later hb.size) h2 (by unfold Rw.ok at hok ⊢; exact hok) (ht.below hb)
  have e : (Rw.mk n n s l).cnt = 1 + Rw.cnts l := by unfold Rw.cnt; rfl
  rw [e] at h3
  exact h3
 clear hk hn hq hR hok ht hS hPO
 go_enter Tryz.func15, Tryz.ntmps15
 go_wp2_with fail
 have M := MdW.new w #[.int .i64 k, .int .i64 n, .string s, .slice A l.length c]
 refine (modO k 5 _ HK.out.1 HK.out.2 (by decide) (by decide)).mono ?_
 rintro e w1 ⟨rfl, rfl⟩
 generalize ((w.alloc (.cells #[.int .i64 k, .int .i64 n, .string s, .slice A l.length c] 26)).alloc (.cells #[.int .i64 0, .string ⟨#[]⟩, .string ⟨#[]⟩, .int .i64 0, .string ⟨#[]⟩, .string ⟨#[]⟩, .string ⟨#[]⟩, .string ⟨#[]⟩, .string ⟨#[]⟩, .slice none 0 0, .slice none 0 0] 35)) = W at M ⊢
 have hq := HQ.out
 have q0 := Int.emod_nonneg k (show (5 : Int) ≠ 0 by decide)
 clear HQ
 generalize k % 5 = q at hq q0 ⊢
 go_wp2_with fail
 refine (varsT 4 (by decide) W).mono ?_
 rintro e w2 ⟨v, rfl, hv, hb2⟩
 have HM := hI (M.below hb2)
 have HV : Hid (NsV w2 (fun b => w.heap.size ≤ b ∧ b < w2.heap.size) vN4 v) := hv.more fun b hb => by
  rcases hb with h | ⟨h1, h2⟩
  · exact h.elim
  · exact ⟨Nat.le_trans M.bel.size h1, h2⟩
 clear M hv hb2
 subst hq
 have d1 : w2.cell? ⟨w.heap.size, 1, none⟩ = some (.int .i64 n) := HM.out.cell 1
 have d2 : w2.cell? ⟨w.heap.size, 2, none⟩ = some (.string s) := HM.out.cell 2
 have d3 : w2.cell? ⟨w.heap.size, 3, none⟩ = some (.slice A l.length c) := HM.out.cell 3
 have CO2 := hI (CO.out w2 HM.out.bel)
 clear HV CO q0
 go_wp2_with fail
 refine CO2.out.mono ?_
 rintro e w3 ⟨o, p, rfl, hp, hb3, hok, hpo⟩
 have HB3 := hI (HM.out.below hb3)
 have CC := hI (conR o p w3 (Upto w2 w3 NoB) (fun b hb => upto_lt (NoB.in w2) hb3.size b hb) hp)
 have HPo := hI (HP.out o hpo (hok.le (by omega)))
 have HS3 := hI hb3
 unfold vO at CC ⊢
 obtain ⟨x0, x1, x2, x3, x4, x5, ea⟩ := cells7 o p
 rw [ea] at CC ⊢
 clear hok hpo hp d1 d2 d3 CO2 HP hb3 ea
 go_wp2_with fail
 refine CC.out.mono ?_
 rintro e w4 ⟨cs, rfl, h4, hb4⟩
 have HB := hI (HB3.out.below hb4)
 have O1 := hI h4.o11
 have HB1 := hI HB.out.b1
 have H4 : Hid (TmAt w4 (Upto w w4 NoB) (.con o) cs) := h4.more fun b hb => up3 HM.out.bel (Below.refl _ _) b (upto_two HS3.out.size hb4.size b hb)
 clear h4 hb4 CC
 go_wp2_with ((with_reducible refine storeTb (cs := cs) (.tmp 2) (.tmp 33) ?_ ?_ ?_ ?_ HB1.out ?_ ?_ ?_ ?_); rfl; rfl; rfl; rfl; rfl; exact O1.out.1; exact O1.out.2)
 exact retTb rfl rfl (HB1.out.set _) O1.out.1 ⟨_, ⟨_, rfl, TmAt.boxed H4.out HB1.out.nb _, below_setRowO HB.out.bel (by omega) _⟩, HPo.out⟩
def MtL (PO : Rw → Ob → Prop) (Y wr : World) (l : List Rw) (i : Nat) (v : Value) : Prop := ∃ ts xs, MkT NoB Y wr ts v xs ∧ ts.length = i ∧ mtsP PO l ts
theorem madeApp (PO : Rw → Ob → Prop) (k n : Int) (s : ByteArray) (l : List Rw) (A : Option Addr) (c : Nat) (w : World) (S : Nat → Prop) (hS : In S w) (hc : l.length ≤ c) (hL : l.length ≤ 6) (hA : 0 < l.length → ∃ b o, A = some ⟨b, o, none⟩ ∧ S b ∧ RawsAt w S b o l) (ht : Tab w) (hq : ¬ k % 5 < 2) (hq2 : k % 5 ≠ 2) (hk : I64 k) (hn : I64 n)
 (KI : ∀ i (hi : i < l.length), ∀ w cs, In S w → RawAt w S l[i] cs → Tab w → Calls Tryz.prog 15 #[.agg cs.toArray] w (RetTP w (mtP PO l[i]))) :
 Calls Tryz.prog 15 #[.agg #[.int .i64 k, .int .i64 n, .string s, .slice A l.length c]] w (RetTP w (mtP PO (.mk k n s l))) := by
 have HK := hI hk
 have HN := hI hn
 have HP : Hid (∀ ts, ts.length = min 3 l.length → mtsP PO l ts → mtP PO (.mk k n s l) (.app (fAt n) ts)) := fun ts h h' => by
  unfold mtP; rw [if_neg hq, if_neg hq2]; exact ⟨ts, rfl, h, h'⟩
 have hq5 := Int.emod_lt_of_pos k (show (0 : Int) < 5 by decide)
 have HQ : Hid (k % 5 = 3 ∨ k % 5 = 4) := (show _ ∨ _ by omega)
 have HT := hI ht
 have HS := hI hS
 have HA := hI hA
 have HI := hI KI
 obtain ⟨L, hLL⟩ : ∃ L, l.length = L := ⟨_, rfl⟩
 rw [hLL] at hL hc ⊢
 have HL := hI hLL
 clear hk hn hq hq2 hq5 hS hA KI ht hLL
 go_enter Tryz.func15, Tryz.ntmps15
 go_wp2_with fail
 have M := MdW.new w #[.int .i64 k, .int .i64 n, .string s, .slice A L c]
 refine (modO k 5 _ HK.out.1 HK.out.2 (by decide) (by decide)).mono ?_
 rintro e w1 ⟨rfl, rfl⟩
 generalize ((w.alloc (.cells #[.int .i64 k, .int .i64 n, .string s, .slice A L c] 26)).alloc (.cells #[.int .i64 0, .string ⟨#[]⟩, .string ⟨#[]⟩, .int .i64 0, .string ⟨#[]⟩, .string ⟨#[]⟩, .string ⟨#[]⟩, .string ⟨#[]⟩, .string ⟨#[]⟩, .slice none 0 0, .slice none 0 0] 35)) = W at M ⊢
 have hq := HQ.out
 clear HQ
 generalize k % 5 = q at hq ⊢
 go_wp2_with fail
 refine (varsT 4 (by decide) W).mono ?_
 rintro e w2 ⟨v, rfl, hv, hb2⟩
 have hbn := below_alT w2 (.cells #[.string ⟨#[102]⟩, .string ⟨#[103]⟩, .string ⟨#[104]⟩] 9)
 have HM := hI ((M.below hb2).below hbn)
 have hN : (w2.alloc (.cells #[.string ⟨#[102]⟩, .string ⟨#[103]⟩, .string ⟨#[104]⟩] 9)).heap[w2.heap.size]? = some (.cells #[.string ⟨#[102]⟩, .string ⟨#[103]⟩, .string ⟨#[104]⟩] 9 (0, 0)) := heap_alloc_new _ _
 have hNlt : w2.heap.size < (w2.alloc (.cells #[.string ⟨#[102]⟩, .string ⟨#[103]⟩, .string ⟨#[104]⟩] 9)).heap.size := by simp
 have HN2 := hI hN
 have HNL := hI hNlt
 obtain ⟨i0, hi0, hz0, hz1, hz2⟩ := infoT
 have HI0 := hI hi0
 have HZ0 := hI hz0
 have HZ1 := hI hz1
 have HZ2 := hI hz2
 have h0 : Hid (MtL PO (w2.alloc (.cells #[.string ⟨#[102]⟩, .string ⟨#[103]⟩, .string ⟨#[104]⟩] 9)) (w2.alloc (.cells #[.string ⟨#[102]⟩, .string ⟨#[103]⟩, .string ⟨#[104]⟩] 9)) l 0 (.slice none 0 0)) := ⟨[], [], MkT.start NoB _, rfl, mtsP_nil _ _⟩
 clear M hv hb2 hbn hN hNlt hi0 hz0 hz1 hz2
 obtain ⟨N, hNe⟩ : ∃ N, N = w2.heap.size := ⟨_, rfl⟩
 rcases hq with rfl | rfl
 all_goals
  go_wp2_with fail
  rw [← hNe] at HN2 HNL ⊢
  generalize w2.alloc (.cells #[.string ⟨#[102]⟩, .string ⟨#[103]⟩, .string ⟨#[104]⟩] 9) = Y at *
  clear hNe
  go_loopw [6, 7] (fun u v wr => ∃ (i : Nat) (sl : Value), sl = u ∧ i ≤ L ∧ i ≤ 3 ∧ v = .int .i64 (i : Int) ∧ Hid (MtL PO Y wr l i sl)) (fun _ v _ => L - (intOf v).toNat)
  case atStart => exact ⟨0, _, rfl, Nat.zero_le _, by decide, rfl, h0⟩
  case round =>
   clear h0
   obtain ⟨i, sl, rfl, hiL, hi3, rfl, hE⟩ := hrel
   obtain ⟨wo, rfl⟩ : ∃ wo : World, wo = wr := ⟨_, rfl⟩
   obtain ⟨ts, xs, hM, htl, hts⟩ := hE.out
   have hB := HM.out.below hM.bel
   have d1 : wo.cell? ⟨w.heap.size, 1, none⟩ = some (.int .i64 n) := hB.cell 1
   have d3 : wo.cell? ⟨w.heap.size, 3, none⟩ = some (.slice A L c) := hB.cell 3
   by_cases hlt : i < L
   · by_cases hlt3 : i < 3
     · have hil : i < l.length := by rw [HL.out]; exact hlt
       obtain ⟨b, o, hAe, hb, hrs⟩ := HA.out (by omega)
       rw [hAe] at d3
       clear hAe
       obtain ⟨cs, hcs, hcell⟩ := hrs.get hil
       have hcs' := hcs.below HS.out hB.bel
       have ha0 : b < w.heap.size := HS.out b hb
       obtain ⟨z0, z1, z2, z3, rfl⟩ : ∃ z0 z1 z2 z3, cs = [z0, z1, z2, z3] := by
        generalize l[i] = r at hcs
        cases r with
        | mk k n s l => unfold RawAt at hcs; obtain ⟨A, c, e, _⟩ := hcs; exact ⟨_, _, _, _, e⟩
       have l0 := (hB.bel.cell (p := ⟨b, o + i * 4 + 0, none⟩) ha0).trans (hcell 0 z0 rfl)
       have l1 := (hB.bel.cell (p := ⟨b, o + i * 4 + 1, none⟩) ha0).trans (hcell 1 z1 rfl)
       have l2 := (hB.bel.cell (p := ⟨b, o + i * 4 + 2, none⟩) ha0).trans (hcell 2 z2 rfl)
       have l3 := (hB.bel.cell (p := ⟨b, o + i * 4 + 3, none⟩) ha0).trans (hcell 3 z3 rfl)
       rw [Nat.add_zero] at l0
       have call := hI (HI.out i hil wo [z0, z1, z2, z3] (HS.out.later hB.bel.size) hcs' (HT.out.below hB.bel))
       have HSN : Hid (∀ t, mtP PO l[i] t → mtsP PO l (ts ++ [t])) := fun t h => by
        refine mtsP_snoc PO l ts t (by rw [htl]; exact hil) hts ?_
        simpa [htl] using h
       have HMK := hI hM
       have HTL := hI htl
       have hYs := hM.bel.size
       generalize l[i] = r at *
       clear hcell hcs hcs' hrs hB hM htl hts hE
       go_wp2_with fail
       refine call.out.mono ?_
       rintro e w3 ⟨t, ⟨cs3, rfl, h3, hb3⟩, hmt⟩
       have own3 := hI (HMK.out.own3 hb3 (.cells cs3.toArray 35))
       rw [HTL.out] at own3
       have HSTEP : Hid (∀ v' w4, w4.ownsRow Y.heap.size 35 11 v' (i + 1) (xs.flatten ++ cs3) → (w3.alloc (.cells cs3.toArray 35)).grownBy w4 sl.ownBlock → (v'.ownBlock = sl.ownBlock ∨ v'.ownBlock = some (w3.alloc (.cells cs3.toArray 35)).heap.size) → MtL PO Y w4 l (i + 1) v') :=
        fun v' w4 h4 hg hat => ⟨_, _, HMK.out.step (NoB.in _) hb3 _ h3 (by rw [HTL.out]; exact h4) hg hat, by rw [List.length_append, HTL.out]; rfl, HSN.out t hmt⟩
       have hone := h3.one
       have hnews : ∀ j u, cs3[j]? = some u → (w3.alloc (.cells cs3.toArray 35)).cell? ((⟨w3.heap.size, 0, none⟩ : Addr).add j) = some u := newsO (cs := cs3.toArray) rfl
       have hs3 : Y.heap.size ≤ (w3.alloc (.cells cs3.toArray 35)).heap.size := by have := hb3.size; simp; omega
       obtain ⟨y0, y1, y2, y3, y4, y5, y6, A3, c3, e3, _, _⟩ := h3.eleven
       subst e3
       have HONE := hI hone
       have HNEWS := hI hnews
       unfold vTm
       clear l0 l1 l2 l3 d1 d3 h3 hb3 call hone hnews hmt HSN HMK hYs
       go_wp2_with (at_builtin; refine wpList_append_own_at _ rfl (.tmp 46) (.tmp 53) _ rfl Y.heap.size 35 i0 _ 11 176 Tryz.underlying30 HI0.out HZ0.out HZ1.out HZ2.out rfl (by omega) sl i xs.flatten rfl own3.out ⟨w3.heap.size, 0, none⟩ 1 1 [.int .i64 t.kd, .string t.nm.1, .string t.nm.2, y0, y1, y2, y3, y4, y5, y6, .slice A3 t.args.length c3] rfl rfl HNEWS.out HONE.out (by simp only [maxLen]; omega) (by omega) hs3 ?_; intro v4 w4 hown4 hg4 hnil4 hat4; have hst := hI (HSTEP.out v4 w4 hown4 hg4 hat4); clear hown4 hg4 hnil4 hat4)
       go_roundw
       case rel => exact ⟨i + 1, _, rfl, by omega, by omega, by go_num, hst⟩
       case measure => simp [intOf]; omega
     · have hmin : i = min 3 L := by omega
       have hn3 : ¬ (i : Int) < 3 := by omega
       have CM := hI (modO n 3 wo HN.out.1 HN.out.2 (by decide) (by decide))
       have j0 := Int.emod_nonneg n (show (3 : Int) ≠ 0 by decide)
       have j1 := Int.emod_lt_of_pos n (show (0 : Int) < 3 by decide)
       obtain ⟨j, hj⟩ : ∃ j : Nat, n % 3 = j := ⟨(n % 3).toNat, by omega⟩
       have hfA : fAt n = uN (fNs.getD j ⟨#[102]⟩) := by unfold fAt; rw [hj]; rfl
       rw [hj] at CM j0 j1
       have hj3 : j < 3 := by omega
       have hNn := (hM.bel.block N HNL.out).trans HN2.out
       have cN : wo.cell? ⟨N, j, none⟩ = some (.string (fNs.getD j ⟨#[102]⟩)) := by
        rw [cell_of_row _ _ _ _ _ _ hNn]
        match j, hj3 with
        | 0, _ => rfl
        | 1, _ => rfl
        | 2, _ => rfl
       have HPt := hI (HP.out ts (by rw [htl, hmin, HL.out]) hts)
       rw [hfA] at HPt
       have CU := hI (userO (fNs.getD j ⟨#[102]⟩) wo)
       have hsl := hM.slice
       have hB1' := hB
       generalize fNs.getD j ⟨#[102]⟩ = nm at *
       have HSL := hI hsl
       have HB0 := hI hB
       have HMB := hI hM.bel
       clear hsl hB hM htl hts hE hB1' hNn hfA hj
       go_wp2_with fail
       refine CM.out.mono ?_
       rintro e w4 ⟨rfl, rfl⟩
       go_wp2_with fail
       refine CU.out.mono ?_
       rintro e w5 ⟨rfl, hb5⟩
       have HSL5 := HSL.out.below (fun b hb => upto_lt (NoB.in Y) HMB.out.size b hb) hb5
       have HIn5 : In (Upto Y wo NoB) w5 := fun b hb => Nat.lt_of_lt_of_le (upto_lt (NoB.in Y) HMB.out.size b hb) hb5.size
       have AC := hI (appR (uN nm) ts sl w5 (Upto Y wo NoB) HIn5 HSL5)
       have HB5 := hI (HB0.out.below hb5)
       have HS5 := hI hb5.size
       unfold uN at AC HPt
       clear HSL5 HIn5 hb5 HSL HB0 cN d1 d3 CU CM
       go_wp2_with fail
       refine AC.out.mono ?_
       rintro e w6 ⟨cs, rfl, h6, hb6⟩
       have HB := hI (HB5.out.below hb6)
       have O1 := hI h6.o11
       have HB1 := hI HB.out.b1
       have H6 : Hid (TmAt w6 (Upto w w6 NoB) (.app (BA [117, 115, 101, 114], nm) ts) cs) := h6.more fun b hb => by
        have h1 := HM.out.bel.size
        have h2 := HMB.out.size
        have h3 := HS5.out
        have h4 := hb6.size
        rcases hb with (h | ⟨h, h'⟩) | ⟨h, h'⟩
        · exact h.elim
        · exact .inr ⟨by omega, by omega⟩
        · exact .inr ⟨by omega, by omega⟩
       clear h6 hb6 AC
       go_wp2_with ((with_reducible refine storeTb (cs := cs) (.tmp 2) (.tmp 63) ?_ ?_ ?_ ?_ HB1.out ?_ ?_ ?_ ?_); rfl; rfl; rfl; rfl; rfl; exact O1.out.1; exact O1.out.2)
       exact retTb rfl rfl (HB1.out.set _) O1.out.1 ⟨_, ⟨_, rfl, TmAt.boxed H6.out HB1.out.nb _, below_setRowO HB.out.bel (by omega) _⟩, HPt.out⟩
   · have hmin : i = min 3 L := by omega
     have hnL : ¬ (i : Int) < L := by omega
     have CM := hI (modO n 3 wo HN.out.1 HN.out.2 (by decide) (by decide))
     have j0 := Int.emod_nonneg n (show (3 : Int) ≠ 0 by decide)
     have j1 := Int.emod_lt_of_pos n (show (0 : Int) < 3 by decide)
     obtain ⟨j, hj⟩ : ∃ j : Nat, n % 3 = j := ⟨(n % 3).toNat, by omega⟩
     have hfA : fAt n = uN (fNs.getD j ⟨#[102]⟩) := by unfold fAt; rw [hj]; rfl
     rw [hj] at CM j0 j1
     have hj3 : j < 3 := by omega
     have hNn := (hM.bel.block N HNL.out).trans HN2.out
     have cN : wo.cell? ⟨N, j, none⟩ = some (.string (fNs.getD j ⟨#[102]⟩)) := by
      rw [cell_of_row _ _ _ _ _ _ hNn]
      match j, hj3 with
      | 0, _ => rfl
      | 1, _ => rfl
      | 2, _ => rfl
     have HPt := hI (HP.out ts (by rw [htl, hmin, HL.out]) hts)
     rw [hfA] at HPt
     have CU := hI (userO (fNs.getD j ⟨#[102]⟩) wo)
     have hsl := hM.slice
     have hB1' := hB
     generalize fNs.getD j ⟨#[102]⟩ = nm at *
     have HSL := hI hsl
     have HB0 := hI hB
     have HMB := hI hM.bel
     clear hsl hB hM htl hts hE hB1' hNn hfA hj
     go_wp2_with fail
     refine CM.out.mono ?_
     rintro e w4 ⟨rfl, rfl⟩
     go_wp2_with fail
     refine CU.out.mono ?_
     rintro e w5 ⟨rfl, hb5⟩
     have HSL5 := HSL.out.below (fun b hb => upto_lt (NoB.in Y) HMB.out.size b hb) hb5
     have HIn5 : In (Upto Y wo NoB) w5 := fun b hb => Nat.lt_of_lt_of_le (upto_lt (NoB.in Y) HMB.out.size b hb) hb5.size
     have AC := hI (appR (uN nm) ts sl w5 (Upto Y wo NoB) HIn5 HSL5)
     have HB5 := hI (HB0.out.below hb5)
     have HS5 := hI hb5.size
     unfold uN at AC HPt
     clear HSL5 HIn5 hb5 HSL HB0 cN d1 d3 CU CM
     go_wp2_with fail
     refine AC.out.mono ?_
     rintro e w6 ⟨cs, rfl, h6, hb6⟩
     have HB := hI (HB5.out.below hb6)
     have O1 := hI h6.o11
     have HB1 := hI HB.out.b1
     have H6 : Hid (TmAt w6 (Upto w w6 NoB) (.app (BA [117, 115, 101, 114], nm) ts) cs) := h6.more fun b hb => by
      have h1 := HM.out.bel.size
      have h2 := HMB.out.size
      have h3 := HS5.out
      have h4 := hb6.size
      rcases hb with (h | ⟨h, h'⟩) | ⟨h, h'⟩
      · exact h.elim
      · exact .inr ⟨by omega, by omega⟩
      · exact .inr ⟨by omega, by omega⟩
     clear h6 hb6 AC
     go_wp2_with ((with_reducible refine storeTb (cs := cs) (.tmp 2) (.tmp 63) ?_ ?_ ?_ ?_ HB1.out ?_ ?_ ?_ ?_); rfl; rfl; rfl; rfl; rfl; exact O1.out.1; exact O1.out.2)
     exact retTb rfl rfl (HB1.out.set _) O1.out.1 ⟨_, ⟨_, rfl, TmAt.boxed H6.out HB1.out.nb _, below_setRowO HB.out.bel (by omega) _⟩, HPt.out⟩
theorem madeT (PO : Rw → Ob → Prop) (hPO : OMk PO) : ∀ (r : Rw) (cs : List Value) (w : World) (S : Nat → Prop), In S w → RawAt w S r cs → r.ok → Tab w → Calls Tryz.prog 15 #[.agg cs.toArray] w (RetTP w (mtP PO r)) := by
 intro r
 induction r using Rw.ind with
 | h k n s l ih =>
  intro cs w S hS h hok ht
  have h' := h
  unfold RawAt at h
  obtain ⟨A, c, rfl, hk, hn, hc, hcm, hA⟩ := h
  have hok' := hok
  unfold Rw.ok at hok
  obtain ⟨hs, hl, hoks⟩ := hok
  by_cases q1 : k % 5 < 2
  · exact madeVar PO k n s l A c w q1 hk hn
  · by_cases q2 : k % 5 = 2
    · exact madeCon PO hPO k n s l A c w S hS h' hok' ht q2 hk hn
    · exact madeApp PO k n s l A c w S hS hc hl hA ht q1 q2 hk hn fun i hi w cs hS hr ht => ih l[i] (List.getElem_mem hi) cs w S hS hr (Rw.oks_mem hoks _ (List.getElem_mem hi)) ht

def Rw.nn : Rw → Int
 | .mk _ n _ _ => n
def LTP (w0 : World) (P : Tm → Prop) : Lv := fun v _ _ w => w0.heap.size ≤ w.heap.size ∧ ∃ t cs, v = vTm cs ∧ TmAt w (Upto w0 w NoB) t cs ∧ P t
theorem mLTP (w0 : World) (P : Tm → Prop) : Mon (LTP w0 P) := fun _ _ _ _ _ ⟨h0, t, cs, h, k, hp⟩ _ hb => ⟨Nat.le_trans h0 hb.size, t, cs, h, TmAt.keep (fun b hb' => upto_more hb.size b hb') (fun b hb' => hb.block b (upto_lt (NoB.in _) h0 b hb')) _ _ k, hp⟩



end Go.Proofs.YtinjhnnpbejccaaGreatDoor
