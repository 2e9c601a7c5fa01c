import Derived.Test.YtinjhnnpbejccaaGreatDoorCl
import Derived.Test.YtinjhnnpbejccaaGreatDoorE11
import Derived.Test.YtinjhnnpbejccaaGreatDoorSh2
import Derived.Lib.LaidTab
import Derived.WalkSmall
import Derived.StillTailTactics
import Derived.IntWalk
import Derived.LaidEqlPtr
import Derived.Deep.MidRow
import Derived.Laws.MakeOwn
import Derived.Deep.QuietTactic
import Derived.BigQuiet
import Derived.Deep.RegionHeld3
import Derived.Deep.RegionWith
import Derived.Deep.DeepCutAuto
namespace Go.Proofs.YtinjhnnpbejccaaGreatDoor
open Go Go.RowKit
set_option linter.unusedVariables false
set_option maxHeartbeats 32000000
set_option maxRecDepth 100000
def Tab (w : World) : Prop := Lib.TabIs Tryz.prog w "internal/strconv.uint64pow10" .u64 Lib.pow10Tab
theorem tab_global : Tryz.prog.globalNamed "internal/strconv.uint64pow10" = some 0 := by kernel_rfl
theorem Tab.pos {w : World} (h : Tab w) : 0 < w.heap.size := by
 have h1 := World.var?_cell tab_global h 0
 have h2 : w.cell? ⟨0, 0, none⟩ = some (.int .u64 1) := by rw [h1]; rfl
 exact World.block_lt_of_cell? w _ h2
theorem Tab.below {w w' : World} (h : Tab w) (hb : Below w.heap.size w w') : Tab w' := var?_below hb tab_global h.pos h
theorem below_grow /- 98 -/ (w : World) (k : Nat) (os : Array Obj) : Below w.heap.size w (Go.Sort.grow (w.drewN k) os) := by
 refine ⟨rfl, rfl, rfl, by simp [Go.Sort.grow], fun b hb => ?_⟩
 simp only [Go.Sort.grow, World.heap_drewN]
 rw [Array.getElem?_append_left hb]
theorem itoa_any (n : Int) (w : World) (h : Hid (I64 n)) (ht : Tab w) : Calls Tryz.prog 98 #[.int .i64 n] w (RetS w n) :=
 (Tryz.strconv_Itoa n h.out.1 h.out.2 w ht).mono fun e w' ⟨h1, k, os, h2⟩ => by
   subst h2
   refine ⟨h1.trans ?_, below_grow w k os⟩
   rw [itoa_eq]
   rfl
theorem text_of_int {n : Int} (h : Hid (I64 n)) : (BA (text n)).size ≤ 100 := by
 rw [BA_size]
 have h1 := text_length (x := n) (k := 20) (by have := h.out; unfold I64 at this; omega)
 omega

theorem fromIntR (n : Int) (w : World) (h : Hid (I64 n)) (ht : Tab w) :
 Calls Tryz.prog 61 #[.int .i64 n] w (RetS w n) := by
 replace ht := qh9 ht
 go_enter Tryz.func61, Tryz.ntmps61
 go_wp2_with fail
 refine (itoa_any n w h ht.out).mono ?_
 rintro e w1 ⟨rfl, hb1⟩
 go_wp2
 go_ret
 exact ⟨rfl, hb1⟩

theorem intO (n : Int) (w : World) (S : Nat → Prop) (hS : In S w) (h : Hid (I64 n)) (ht : Tab w) :
 Calls Tryz.prog 59 #[.int .i64 n] w (RetO w S (.num (n : Rat))) := by
 replace ht := qh9 ht
 have hq : quo (LA (BA (text n))) (LA ⟨#[49]⟩) = (n : Rat) := by
  rw [show (⟨#[49]⟩ : ByteArray) = BA (text 1) from by decide, quo_text, q_int]
 have HQ := qh9 hq
 clear hq
 go_enter Tryz.func59, Tryz.ntmps59
 go_wp2_with fail
 have hb0 : Below w.heap.size w (w.alloc (Obj.cells #[Value.int IntKind.i64 0, Value.string { data := #[] }, Value.string { data := #[] }, Value.string { data := #[] }, Value.string { data := #[] }, Value.string { data := #[] }, Value.slice none 0 0] 33)) := Below.alloc (Below.refl _ _) (Nat.le_refl _) _
 have hg0 := heap_alloc_new w (Obj.cells #[Value.int IntKind.i64 0, Value.string { data := #[] }, Value.string { data := #[] }, Value.string { data := #[] }, Value.string { data := #[] }, Value.string { data := #[] }, Value.slice none 0 0] 33)
 refine (fromIntR n _ h (ht.out.below hb0)).mono ?_
 rintro e w1 ⟨rfl, hb1⟩
 have h12 := hb1.size
 simp only [World.size_alloc] at h12
 have hg1 := (hb1.block w.heap.size (by simp)).trans hg0
 clear hg0
 have hbw := hb0.trans (hb1.mono hb0.size)
 replace hg1 := qh9 hg1
 go_wp2_with fail
 refine (ratO _ ⟨#[49]⟩ w1 (fun _ => False) (fun _ h => h.elim) (by have := text_of_int h; omega) (by decide)).mono ?_
 rintro e w2 ⟨p, rfl, hp, hb2⟩
 rw [HQ.out] at hp ⊢
 have h23 := hb2.size
 have hg2 := qh9 ((hb2.block w.heap.size (by omega)).trans hg1.out)
 go_wp2_with (refine storeV (w1 := w2) rfl (.tmp 2) (.tmp 5) rfl w.heap.size _ _ rfl rfl hp _ _ hg2.out rfl ?_)
 exact retV rfl rfl hg2.out hp (fun h => by
  rcases h with h | ⟨h, _⟩
  · exact h
  · omega) (fun b hb => by
  rcases hb with hb | ⟨h1, h2⟩
  · exact hb.elim
  · exact .inr ⟨by omega, h2⟩) (Nat.le_refl _) (hbw.trans (hb2.mono hbw.size))
def ObsAt (w : World) (S : Nat → Prop) (b o : Nat) : List Ob → Prop
 | [] => True
 | r :: rs => (∃ p, Pair w S r p ∧ ∀ j u, (cellsO r p)[j]? = some u → w.cell? ⟨b, o + j, none⟩ = some u) ∧ ObsAt w S b (o + 7) rs
theorem ObsAt.get {w : World} {S : Nat → Prop} {b : Nat} : ∀ {l : List Ob} {o i : Nat} (hi : i < l.length), ObsAt w S b o l → ∃ p, Pair w S l[i] p ∧ ∀ j u, (cellsO l[i] p)[j]? = some u → w.cell? ⟨b, o + i * 7 + j, none⟩ = some u
 | r :: rs, o, 0, hi, h => by
  unfold ObsAt at h
  obtain ⟨p, h1, h2⟩ := h.1
  exact ⟨p, h1, fun j u hj => by rw [Nat.zero_mul, Nat.add_zero]; exact h2 j u hj⟩
 | r :: rs, o, i + 1, hi, h => by
  unfold ObsAt at h
  obtain ⟨p, h1, h2⟩ := ObsAt.get (l := rs) (o := o + 7) (i := i) (by simpa using hi) h.2
  exact ⟨p, h1, fun j u hj => by rw [show o + (i + 1) * 7 + j = o + 7 + i * 7 + j from by omega]; exact h2 j u hj⟩
theorem list_drop {l : List Ob} {i : Nat} (hi : i < l.length) : Ob.list (l.drop i) = .cons l[i] (Ob.list (l.drop (i + 1))) := by
 rw [List.drop_eq_getElem_cons hi]; rfl
def ListW (w W wr : World) (S : Nat → Prop) (l : List Ob) (g k : Nat) : Prop :=
 ∃ p t, wr.heap[g]? = some (.cells (cellsO (Ob.list (l.drop k)) p).toArray t (0, 0)) ∧ Pair wr (fun b => S b ∨ (g < b ∧ b < wr.heap.size)) (Ob.list (l.drop k)) p ∧ Below g W wr

theorem listO (l : List Ob) (A : Option Addr) (c : Nat) (w : World) (S : Nat → Prop) (hS : In S w) (hc : l.length ≤ c) (hl : l.length ≤ 100000)
 (hA : 0 < l.length → ∃ b o, A = some ⟨b, o, none⟩ ∧ S b ∧ ObsAt w S b o l) :
 Calls Tryz.prog 67 #[.slice A l.length c] w (RetO w S (Ob.list l)) := by
 obtain ⟨L, hL⟩ : ∃ L, l.length = L := ⟨_, rfl⟩
 rw [hL] at hc hA hl ⊢
 have HL := qh9 hL
 have HA := qh9 hA
 clear hL hA
 go_enter Tryz.func67, Tryz.ntmps67
 go_wp2_with fail
 have hb0 : Below w.heap.size w (w.alloc (Obj.cells #[Value.int IntKind.i64 0, Value.string { data := #[] }, Value.string { data := #[] }, Value.string { data := #[] }, Value.string { data := #[] }, Value.string { data := #[] }, Value.slice none 0 0] 33)) := Below.alloc (Below.refl _ _) (Nat.le_refl _) _
 have hg0 := heap_alloc_new w (Obj.cells #[Value.int IntKind.i64 0, Value.string { data := #[] }, Value.string { data := #[] }, Value.string { data := #[] }, Value.string { data := #[] }, Value.string { data := #[] }, Value.slice none 0 0] 33)
 refine (nilO _ (fun _ => False)).mono ?_
 rintro e w1 ⟨p, rfl, hp, hb1⟩
 have h12 := hb1.size
 simp only [World.size_alloc] at h12
 have hg1 := qh9 ((hb1.block w.heap.size (by simp)).trans hg0)
 have hbw := hb0.trans (hb1.mono hb0.size)
 clear hg0 hb0 hb1
 have hp' : Pair w1 (fun _ => False) .nil p := hp
 go_wp2_with (refine storeV (w1 := w1) rfl (.tmp 3) (.tmp 5) rfl w1.heap.size .nil p rfl rfl hp _ _ (heap_alloc_new w1 _) rfl ?_)
 have hg := setRow_heap (w1.alloc (Obj.cells #[Value.int IntKind.i64 0, Value.string { data := #[] }, Value.string { data := #[] }, Value.string { data := #[] }, Value.string { data := #[] }, Value.string { data := #[] }, Value.slice none 0 0] 33)) w1.heap.size _ (cellsO .nil p).toArray _ _ (heap_alloc_new w1 _)
 have hbW := below_setRowO (Below.alloc hbw (by omega) (Obj.cells #[Value.int IntKind.i64 0, Value.string { data := #[] }, Value.string { data := #[] }, Value.string { data := #[] }, Value.string { data := #[] }, Value.string { data := #[] }, Value.slice none 0 0] 33)) (g := w1.heap.size) (by omega) (cellsO .nil p).toArray
 have hgW : ((w1.alloc (Obj.cells #[Value.int IntKind.i64 0, Value.string { data := #[] }, Value.string { data := #[] }, Value.string { data := #[] }, Value.string { data := #[] }, Value.string { data := #[] }, Value.slice none 0 0] 33)).setRow w1.heap.size (cellsO .nil p).toArray).heap[w.heap.size]? = some (Obj.cells #[Value.int IntKind.i64 0, Value.string { data := #[] }, Value.string { data := #[] }, Value.string { data := #[] }, Value.string { data := #[] }, Value.string { data := #[] }, Value.slice none 0 0] 33) := by
  rw [setRow_other _ _ _ _ (by omega), Below.heap_alloc _ _ _ (by omega)]
  exact hg1.out
 generalize (w1.alloc (Obj.cells #[Value.int IntKind.i64 0, Value.string { data := #[] }, Value.string { data := #[] }, Value.string { data := #[] }, Value.string { data := #[] }, Value.string { data := #[] }, Value.slice none 0 0] 33)).setRow w1.heap.size (cellsO .nil p).toArray = W at hg hbW hgW ⊢
 have h0 : Hid (ListW w W W S l w1.heap.size L) := ⟨p, _, by rw [List.drop_eq_nil_of_le (by rw [HL.out]; exact Nat.le_refl _)]; exact hg, by rw [List.drop_eq_nil_of_le (by rw [HL.out]; exact Nat.le_refl _)]; exact hp', Below.refl _ _⟩
 have HGW := qh9 hgW
 generalize w1.heap.size = g at h12 h0 ⊢
 clear hg hgW hp hp' hg1 hbw
 have h13 : w.heap.size < g := by omega
 go_wp2_with fail
 go_loopw [4] (fun v wr => ∃ k : Nat, k ≤ L ∧ v = .int .i64 ((k : Int) - 1) ∧ Hid (ListW w W wr S l g k)) (fun v _ => (intOf v + 1).toNat)
 case atStart => exact ⟨L, Nat.le_refl _, rfl, h0⟩
 case round =>
  clear h0
  obtain ⟨k, hk, rfl, hE⟩ := hrel
  obtain ⟨wo, rfl⟩ : ∃ wo : World, wo = wr := ⟨_, rfl⟩
  obtain ⟨q, t, hh, hq, hbl⟩ := hE.out
  clear hE
  have hwg : w.heap.size ≤ g := by omega
  have hbwo := hbW.trans (hbl.mono hwg)
  have hgl : g < wo.heap.size := by
   rcases Nat.lt_or_ge g wo.heap.size with h | h
   · exact h
   · rw [Array.getElem?_eq_none h] at hh; cases hh
  obtain ⟨y0, y1, y2, y3, y4, y5, eq⟩ := cells7 (Ob.list (l.drop k)) q
  have m0 : wo.cell? ⟨g, 0, none⟩ = some y0 := by rw [cell_of_row _ _ _ _ _ _ hh, eq]; rfl
  have m1 : wo.cell? ⟨g, 1, none⟩ = some y1 := by rw [cell_of_row _ _ _ _ _ _ hh, eq]; rfl
  have m2 : wo.cell? ⟨g, 2, none⟩ = some y2 := by rw [cell_of_row _ _ _ _ _ _ hh, eq]; rfl
  have m3 : wo.cell? ⟨g, 3, none⟩ = some y3 := by rw [cell_of_row _ _ _ _ _ _ hh, eq]; rfl
  have m4 : wo.cell? ⟨g, 4, none⟩ = some y4 := by rw [cell_of_row _ _ _ _ _ _ hh, eq]; rfl
  have m5 : wo.cell? ⟨g, 5, none⟩ = some y5 := by rw [cell_of_row _ _ _ _ _ _ hh, eq]; rfl
  have m6 : wo.cell? ⟨g, 6, none⟩ = some q := by rw [cell_of_row _ _ _ _ _ _ hh, eq]; rfl
  have HH := qh9 hh
  clear hh
  have hIn : In (fun b => S b ∨ (g < b ∧ b < wo.heap.size)) wo := fun b hb => by
   rcases hb with hb | ⟨_, hb⟩
   · have := hS b hb; omega
   · exact hb
  by_cases hk0 : 0 < k
  · obtain ⟨b, o, rfl, hb, hobs⟩ := HA.out (by omega)
    have hkl : k - 1 < l.length := by rw [HL.out]; omega
    obtain ⟨pa, hpa, hcell⟩ := hobs.get hkl
    have hbl0 : b < w.heap.size := hS b hb
    have hpa' := (hpa.below hS hbwo).more (S' := fun b => S b ∨ (g < b ∧ b < wo.heap.size)) fun _ h => .inl h
    have hld := qh9 (list_drop hkl)
    have call : ∀ wd, Below wo.heap.size wo wd → Calls Tryz.prog 65 #[vO l[k - 1] pa, vO (Ob.list (l.drop k)) q] wd (RetO wd (fun b => S b ∨ (g < b ∧ b < wo.heap.size)) (.cons l[k - 1] (Ob.list (l.drop k)))) :=
     fun wd hbd => consO _ _ pa q wd _ (hIn.later hbd.size) (hpa'.below hIn hbd) (hq.below hIn hbd)
    obtain ⟨x0, x1, x2, x3, x4, x5, ea⟩ := cells7 l[k - 1] pa
    rw [ea] at hcell
    have l0 := (hbwo.cell (p := ⟨b, o + (k - 1) * 7 + 0, none⟩) hbl0).trans (hcell 0 _ rfl)
    have l1 := (hbwo.cell (p := ⟨b, o + (k - 1) * 7 + 1, none⟩) hbl0).trans (hcell 1 _ rfl)
    have l2 := (hbwo.cell (p := ⟨b, o + (k - 1) * 7 + 2, none⟩) hbl0).trans (hcell 2 _ rfl)
    have l3 := (hbwo.cell (p := ⟨b, o + (k - 1) * 7 + 3, none⟩) hbl0).trans (hcell 3 _ rfl)
    have l4 := (hbwo.cell (p := ⟨b, o + (k - 1) * 7 + 4, none⟩) hbl0).trans (hcell 4 _ rfl)
    have l5 := (hbwo.cell (p := ⟨b, o + (k - 1) * 7 + 5, none⟩) hbl0).trans (hcell 5 _ rfl)
    have l6 := (hbwo.cell (p := ⟨b, o + (k - 1) * 7 + 6, none⟩) hbl0).trans (hcell 6 _ rfl)
    rw [Nat.add_zero] at l0
    unfold vO at call
    rw [ea, eq] at call
    have CALL := qh9 call
    have EQ := qh9 eq
    clear call hcell hobs hpa hpa' ea eq
    have hp0 : (0 : Int) ≤ (k : Int) - 1 := by omega
    have hp1 : (k : Int) - 1 < L := by omega
    go_wp2_with fail
    go_still_tail 5, (by kernel_rfl)
    change wpList _ _ _ _ _ wo.drew
    have hbd : Below wo.heap.size wo wo.drew := (Below.refl _ _).drew
    generalize wo.drew = wd at hbd ⊢
    clear l0 l1 l2 l3 l4 l5 l6 m0 m1 m2 m3 m4 m5 m6
    go_wp2_with fail
    refine (CALL.out wd hbd).mono ?_
    rintro e w3 ⟨p3, rfl, hp3, hb3⟩
    have h34 := hb3.size
    have h45 := hbd.size
    have hbe := hbd.trans (hb3.mono hbd.size)
    have hh3 := qh9 ((hbe.block g hgl).trans HH.out)
    go_wp2_with (refine storeV (w1 := w3) rfl (.tmp 3) (.tmp 18) rfl g _ _ rfl rfl hp3 _ _ hh3.out (by simp [cellsO_length]) ?_)
    go_roundw
    case rel =>
     refine ⟨k - 1, by omega, by congr 1; omega, ⟨p3, t, ?_, ?_, below_setRowO (hbl.trans (hbe.mono (by omega))) (Nat.le_refl _) _⟩⟩
     · rw [hld.out, show k - 1 + 1 = k from by omega]
       exact setRow_heap _ _ _ _ _ _ hh3.out
     · rw [hld.out, show k - 1 + 1 = k from by omega]
       refine (hp3.setRow g (fun h => ?_) _).more (fun b h => ?_)
       · rcases h with (h | ⟨h, _⟩) | ⟨h, _⟩
         · have := hS g h; omega
         · omega
         · omega
       · rw [size_setRow]
         rcases h with (h | ⟨h, h2⟩) | ⟨h, h2⟩
         · exact .inl h
         · exact .inr ⟨h, by omega⟩
         · exact .inr ⟨by omega, h2⟩
    case measure => simp [intOf]; omega
  · have hkz : k = 0 := by omega
    subst hkz
    have hh3 := qh9 ((hbl.block w.heap.size (by omega)).trans HGW.out)
    have ev := qh9 (show Value.agg #[y0, y1, y2, y3, y4, y5, q] = vO (Ob.list (l.drop 0)) q from by unfold vO; rw [eq])
    have HQ := qh9 hq
    have hbx := qh9 hbwo
    clear eq hq hbl hbwo
    go_wp2_with (refine storeV (w1 := wo) rfl (.tmp 2) (.tmp 19) rfl w.heap.size _ _ rfl ev.out HQ.out _ _ hh3.out rfl ?_)
    exact retV rfl rfl hh3.out HQ.out (fun h => by
     rcases h with h | ⟨h, _⟩
     · have := hS _ h; omega
     · omega) (fun b hb => by
     rcases hb with hb | ⟨h1, h2⟩
     · exact .inl hb
     · exact .inr ⟨by omega, h2⟩) (Nat.le_refl _) hbx.out


def Bd (k : Nat) (q : Rat) : Prop := q.num.natAbs < 10 ^ k ∧ q.den < 10 ^ k
theorem bd_nt {k : Nat} {q : Rat} (h : Bd k q) : (nt q).size ≤ k + 2 := by unfold nt; rw [BA_size]; exact text_length h.1
theorem bd_dt {k : Nat} {q : Rat} (h : Bd k q) : (dt q).size ≤ k + 2 := by unfold dt; rw [BA_size]; exact text_length h.2
theorem pow_le {j k : Nat} (h : j ≤ k) : 10 ^ j ≤ 10 ^ k := Nat.pow_le_pow_right (by omega) h
theorem Bd.more {j k : Nat} {q : Rat} (h : Bd j q) (hk : j ≤ k) : Bd k q := ⟨Nat.lt_of_lt_of_le h.1 (pow_le hk), Nat.lt_of_lt_of_le h.2 (pow_le hk)⟩
theorem bd_divInt {k : Nat} {n d : Int} (hn : n.natAbs < 10 ^ k) (hd : d.natAbs < 10 ^ k) (hk : 0 < k) : Bd k (Rat.divInt n d) := by
 by_cases h0 : d = 0
 · subst h0
   rw [Rat.divInt_zero]
   exact ⟨Nat.pow_pos (by omega), Nat.lt_of_lt_of_le (show 1 < 10 ^ 1 by decide) (pow_le hk)⟩
 · constructor
   · rw [Rat.num_divInt]
     refine Nat.lt_of_le_of_lt (Int.natAbs_ediv_le_natAbs _ _) ?_
     rw [Int.natAbs_mul, Int.natAbs_sign_of_ne_zero h0, Nat.one_mul]
     exact hn
   · rw [Rat.den_divInt, if_neg h0]
     exact Nat.lt_of_le_of_lt (Nat.div_le_self _ _) hd
theorem bd_quo {k : Nat} {l m : List UInt8} (hl : l.length ≤ k) (hm : m.length ≤ k) (hk : 0 < k) : Bd k (quo l m) := by
 unfold quo
 refine bd_divInt ?_ ?_ hk
 · rw [val_natAbs]; exact Nat.lt_of_lt_of_le (mag_lt l) (pow_le (by omega))
 · rw [val_natAbs]; exact Nat.lt_of_lt_of_le (mag_lt m) (pow_le (by omega))
theorem lt_pow_mul {a b j k : Nat} (ha : a < 10 ^ j) (hb : b < 10 ^ k) : a * b < 10 ^ (j + k) := by
 rw [Nat.pow_add]
 exact Nat.mul_lt_mul'' ha hb
theorem bd_int {k : Nat} {n : Int} (hn : n.natAbs < 10 ^ k) (hk : 0 < k) : Bd k (n : Rat) := by
 rw [← q_int]
 exact bd_divInt hn (Nat.lt_of_lt_of_le (show 1 < 10 ^ 1 by decide) (pow_le hk)) hk
def Ob.bd (k : Nat) : Ob → Prop
 | .num q => Bd k q
 | .str s => s.length ≤ 2 * k + 20
 | .sym p n => SyOk p n
 | .cons a d => a.bd k ∧ d.bd k
def eqI (a b : Ob) : Int := if a = b then 0 else 1
def ordX (x : Bool) (a b : Ob) : Int := if x then eqI a b else ordO a b
theorem ordX_cons (x : Bool) (a d a' d' : Ob) : ordX x (.cons a d) (.cons a' d') = next (ordX x a a') (ordX x d d') := by
 unfold ordX
 cases x
 · rfl
 · simp only [if_true]
   unfold eqI next
   by_cases h1 : a = a'
   · subst h1; simp
   · simp [h1]
theorem ordX_zero (x : Bool) (a b : Ob) : ordX x a b = 0 ↔ a = b := by
 unfold ordX
 cases x
 · exact ordO_zero a b
 · simp only [if_true]
   unfold eqI
   split
   · rename_i h; exact ⟨fun _ => h, fun _ => rfl⟩
   · rename_i h; exact ⟨fun e => by omega, fun e => absurd e h⟩
def Ob.isCons : Ob → Bool
 | .cons _ _ => true
 | _ => false
def owp (x : Bool) (a b : Ob) : Int := if a.isCons && b.isCons then 0 else ordX x a b
def At (w : World) (S : Nat → Prop) (o : Ob) (b k : Nat) (p : Value) : Prop :=
 (S b ∧ Plain w b) ∧ (∀ j u, (cellsO o p)[j]? = some u → w.cell? ⟨b, k + j, none⟩ = some u) ∧ Pair w S o p
theorem At.keep {w w' : World} {S S' : Nat → Prop} (hS : ∀ b, S b → S' b) (hk : ∀ b, S b → w'.heap[b]? = w.heap[b]?) {o : Ob} {b k : Nat} {p : Value} (h : At w S o b k p) : At w' S' o b k p :=
 ⟨⟨hS b h.1.1, h.1.2.keep (hk b h.1.1)⟩, fun j u hj => (World.cell?_of_block (a := ⟨b, k + j, none⟩) (hk b h.1.1)).trans (h.2.1 j u hj), h.2.2.keep hS hk⟩
theorem At.below {w w' : World} {S : Nat → Prop} {B : Nat} {o : Ob} {b k : Nat} {p : Value} (h : At w S o b k p) (hS : ∀ b, S b → b < B) (hb : Below B w w') : At w' S o b k p := h.keep (fun _ h => h) fun q hq => hb.block q (hS q hq)
theorem At.more {w : World} {S S' : Nat → Prop} {o : Ob} {b k : Nat} {p : Value} (h : At w S o b k p) (hS : ∀ b, S b → S' b) : At w S' o b k p := h.keep hS fun _ _ => rfl
theorem At.cells {w : World} {S : Nat → Prop} {o : Ob} {b k : Nat} {p : Value} (h : At w S o b k p) : ∃ x0 x1 x2 x3 x4 x5, cellsO o p = [x0, x1, x2, x3, x4, x5, p] ∧
 w.cell? ⟨b, k, none⟩ = some x0 ∧ w.cell? ⟨b, k + 1, none⟩ = some x1 ∧ w.cell? ⟨b, k + 2, none⟩ = some x2 ∧ w.cell? ⟨b, k + 3, none⟩ = some x3 ∧ w.cell? ⟨b, k + 4, none⟩ = some x4 ∧ w.cell? ⟨b, k + 5, none⟩ = some x5 ∧ w.cell? ⟨b, k + 6, none⟩ = some p := by
 obtain ⟨x0, x1, x2, x3, x4, x5, e⟩ := cells7 o p
 have hc := h.2.1
 rw [e] at hc
 exact ⟨x0, x1, x2, x3, x4, x5, e, hc 0 _ rfl, hc 1 _ rfl, hc 2 _ rfl, hc 3 _ rfl, hc 4 _ rfl, hc 5 _ rfl, hc 6 _ rfl⟩
theorem At.last {w : World} {S : Nat → Prop} {o : Ob} {b k : Nat} {p : Value} (h : At w S o b k p) : w.cell? ⟨b, k + 6, none⟩ = some p := by
 obtain ⟨_, _, _, _, _, _, _, _, _, _, _, _, _, h6⟩ := h.cells; exact h6
theorem Pair.parts {w : World} {S : Nat → Prop} {a d : Ob} {p : Value} (h : Pair w S (.cons a d) p) : ∃ b o c pa pd, p = .slice (some ⟨b, o, none⟩) 2 c ∧ 2 ≤ c ∧ At w S a b o pa ∧ At w S d b (o + 7) pd := by
 obtain ⟨b, o, c, pa, pd, h1, h2, h3, h4, h5, h6⟩ := h
 refine ⟨b, o, c, pa, pd, h1, h2, ⟨h3, fun j u hj => h4 j u ?_, h5⟩, ⟨h3, fun j u hj => ?_, h6⟩⟩
 · rw [List.getElem?_append_left (by
    rcases Nat.lt_or_ge j (cellsO a pa).length with hlt | hge
    · exact hlt
    · rw [List.getElem?_eq_none hge] at hj; cases hj)]
   exact hj
 · rw [show o + 7 + j = o + (7 + j) from by omega]
   refine h4 (7 + j) u ?_
   rw [List.getElem?_append_right (by rw [cellsO_length]; omega), cellsO_length, show 7 + j - 7 = j from by omega]
   exact hj
theorem Pair.flat {w : World} {S : Nat → Prop} {o : Ob} {p : Value} (h : Pair w S o p) (ho : o.isCons = false) : p = .slice none 0 0 := by
 cases o with
 | cons a d => simp [Ob.isCons] at ho
 | _ => exact h

theorem BA_inj {l m : List UInt8} (h : BA l = BA m) : l = m := by
 have := congrArg LA h
 rwa [LA_BA, LA_BA] at this
theorem cells_inj {w : World} {S S' : Nat → Prop} : ∀ {a a' : Ob} {p p' : Value}, cellsO a p = cellsO a' p' → Pair w S a p → Pair w S' a' p' → a = a' ∧ p = p'
 | .num q, .num q', p, p', h, _, _ => by
  unfold cellsO at h
  simp only [List.cons.injEq, Value.string.injEq, and_true, true_and] at h
  exact ⟨by rw [q_ext h.1 h.2.1], h.2.2⟩
 | .str s, .str s', p, p', h, _, _ => by
  unfold cellsO at h
  simp only [List.cons.injEq, Value.string.injEq, and_true, true_and] at h
  exact ⟨by rw [BA_inj h.1], h.2⟩
 | .sym x y, .sym x' y', p, p', h, _, _ => by
  unfold cellsO at h
  simp only [List.cons.injEq, Value.string.injEq, and_true, true_and] at h
  exact ⟨by rw [BA_inj h.1, BA_inj h.2.1], h.2.2⟩
 | .cons a d, .cons a' d', p, p', h, hp, hp' => by
  unfold cellsO at h
  simp only [List.cons.injEq, and_true, true_and] at h
  subst h
  obtain ⟨b, o, c, pa, pd, rfl, h2, h3, h4, h5, h6⟩ := hp
  obtain ⟨b', o', c', pa', pd', e, h2', h3', h4', h5', h6'⟩ := hp'
  simp only [Value.slice.injEq, Option.some.injEq, Addr.mk.injEq, true_and, and_true] at e
  obtain ⟨⟨rfl, rfl⟩, rfl⟩ := e
  have key : cellsO a pa ++ cellsO d pd = cellsO a' pa' ++ cellsO d' pd' := by
   apply List.ext_getElem?
   intro j
   by_cases hj : j < 14
   · have l1 : j < (cellsO a pa ++ cellsO d pd).length := by rw [List.length_append, cellsO_length, cellsO_length]; omega
     have l2 : j < (cellsO a' pa' ++ cellsO d' pd').length := by rw [List.length_append, cellsO_length, cellsO_length]; omega
     have e1 := h4 j _ (List.getElem?_eq_getElem l1)
     have e2 := h4' j _ (List.getElem?_eq_getElem l2)
     rw [List.getElem?_eq_getElem l1, List.getElem?_eq_getElem l2, ← e1, ← e2]
   · rw [List.getElem?_eq_none (by rw [List.length_append, cellsO_length, cellsO_length]; omega), List.getElem?_eq_none (by rw [List.length_append, cellsO_length, cellsO_length]; omega)]
  have k1 : cellsO a pa = cellsO a' pa' ∧ cellsO d pd = cellsO d' pd' := List.append_inj key (by rw [cellsO_length, cellsO_length])
  obtain ⟨ea, _⟩ := cells_inj k1.1 h5 h5'
  obtain ⟨ed, _⟩ := cells_inj k1.2 h6 h6'
  exact ⟨by rw [ea, ed], rfl⟩
 | .num _, .str _, _, _, h, _, _ => by simp [cellsO] at h
 | .num _, .sym _ _, _, _, h, _, _ => by simp [cellsO] at h
 | .num _, .cons _ _, _, _, h, _, _ => by simp [cellsO] at h
 | .str _, .num _, _, _, h, _, _ => by simp [cellsO] at h
 | .str _, .sym _ _, _, _, h, _, _ => by simp [cellsO] at h
 | .str _, .cons _ _, _, _, h, _, _ => by simp [cellsO] at h
 | .sym _ _, .num _, _, _, h, _, _ => by simp [cellsO] at h
 | .sym _ _, .str _, _, _, h, _, _ => by simp [cellsO] at h
 | .sym _ _, .cons _ _, _, _, h, _, _ => by simp [cellsO] at h
 | .cons _ _, .num _, _, _, h, _, _ => by simp [cellsO] at h
 | .cons _ _, .str _, _, _, h, _, _ => by simp [cellsO] at h
 | .cons _ _, .sym _ _, _, _, h, _, _ => by simp [cellsO] at h
theorem At.inj {w : World} {S S' : Nat → Prop} {a a' : Ob} {b k : Nat} {p p' : Value} (h : At w S a b k p) (h' : At w S' a' b k p') : a = a' := by
 refine (cells_inj (w := w) (List.ext_getElem? fun j => ?_) h.2.2 h'.2.2).1
 by_cases hj : j < 7
 · have l1 : j < (cellsO a p).length := by rw [cellsO_length]; omega
   have l2 : j < (cellsO a' p').length := by rw [cellsO_length]; omega
   have e1 := h.2.1 j _ (List.getElem?_eq_getElem l1)
   have e2 := h'.2.1 j _ (List.getElem?_eq_getElem l2)
   rw [List.getElem?_eq_getElem l1, List.getElem?_eq_getElem l2, ← e1, ← e2]
 · rw [List.getElem?_eq_none (by rw [cellsO_length]; omega), List.getElem?_eq_none (by rw [cellsO_length]; omega)]

def RetB (w : World) (r : Bool) (e : Ending) (w' : World) : Prop := e = .returned (.bool r) ∧ Below w.heap.size w w'
def CntW (w wr : World) (S : Nat → Prop) (x : Ob) (b k : Nat) (m r : Int) : Prop := (∃ p, At w S x b k p) ∧ m + x.nodes = r ∧ w = wr

theorem countO : ∀ (N : Nat) (a : Ob) (b k : Nat) (p : Value) (m : Int) (w : World) (S : Nat → Prop), a.nodes ≤ N → At w S a b k p → 0 ≤ m → m + a.nodes ≤ 3000 →
 Calls Tryz.prog 155 #[.pointer (some ⟨b, k, none⟩), .int .i64 m] w fun e w' => e = .returned (.int .i64 (m + a.nodes)) ∧ w = w' := by
 intro N
 induction N with
 | zero => intro a b k p m w S hN; have := a.nodes_pos; omega
 | succ N IH =>
  intro a b k p m w S hN h hm hmn
  have pos := a.nodes_pos
  have IH' := qh9 IH
  clear IH
  obtain ⟨R, hR⟩ : ∃ R : Int, m + a.nodes = R := ⟨_, rfl⟩
  rw [hR] at hmn ⊢
  have h0 : Hid (CntW w w S a b k m R) := ⟨⟨p, h⟩, hR, rfl⟩
  clear h hR
  go_enter Tryz.func155, Tryz.ntmps155
  go_wp2_with fail
  go_loopg [0, 1] a.nodes (fun n u v wr => ∃ (x : Ob) (b k : Nat) (m : Int), u = .pointer (some ⟨b, k, none⟩) ∧ v = .int .i64 m ∧ 0 ≤ m ∧ x.nodes ≤ n ∧ n ≤ N + 1 ∧ Hid (CntW w wr S x b k m R))
  case atStart => exact ⟨a, b, k, m, rfl, rfl, hm, Nat.le_refl _, hN, h0⟩
  case round =>
   clear h0
   obtain ⟨x, b, k, m, rfl, rfl, hm, hxn, hnN, hE⟩ := hrel
   obtain ⟨⟨p, h⟩, hR, hw⟩ := hE.out
   subst hw
   clear hE
   have posx := x.nodes_pos
   have l6 := h.last
   cases hx : x.isCons with
   | false =>
    obtain rfl := h.2.2.flat hx
    have hx1 : x.nodes = 1 := by cases x <;> first | rfl | simp [Ob.isCons] at hx
    have hR' : m + 1 = R := by omega
    have hmm : m ≤ 3000 := by omega
    have HR := qh9 hR'
    clear hR hR' hx h
    go_wp2
    go_ret
    exact ⟨ret_int HR.out, rfl⟩
   | true =>
    cases x with
    | cons a d =>
     obtain ⟨b', o', c', pa, pd, rfl, hc, hA, hD⟩ := h.2.2.parts
     have hnn : (Ob.cons a d).nodes = 1 + a.nodes + d.nodes := rfl
     have pa1 := a.nodes_pos
     have pd1 := d.nodes_pos
     have call := qh9 (IH'.out a b' o' pa (m + 1) w S (by omega) hA (by omega) (by omega))
     have hE2 : Hid (CntW w w S d b' (o' + 7) (m + 1 + a.nodes) R) := ⟨⟨pd, hD⟩, by omega, rfl⟩
     have hq : 0 ≤ m + 1 + a.nodes := by omega
     have hd : d.nodes < gk := by omega
     have hd2 : d.nodes ≤ N + 1 := by omega
     have hmm : m ≤ 3000 := by omega
     have hm3 : m + 1 ≤ 3001 := by omega
     clear hx h hA hD hR hnn
     go_wp2_with fail
     refine call.out.mono ?_
     rintro e w' ⟨rfl, rfl⟩
     go_wp2_with fail
     go_roundg d.nodes
     case measure => exact hd
     case rel => exact ⟨d, b', o' + 7, m + 1 + a.nodes, rfl, rfl, hq, Nat.le_refl _, hd2, hE2⟩
    | _ => simp [Ob.isCons] at hx
theorem nodesP (a : Ob) (p : Value) (w : World) (S : Nat → Prop) (hS : In S w) (h : Pair w S a p) (hn : a.nodes ≤ 3000) :
 Calls Tryz.prog 128 #[vO a p] w (fun e w' => e = .returned (.int .i64 a.nodes) ∧ Below w.heap.size w w') := by
 obtain ⟨x0, x1, x2, x3, x4, x5, e⟩ := cells7 a p
 have hb : Below w.heap.size w (w.alloc (.cells #[x0, x1, x2, x3, x4, x5, p] 33)) := Below.alloc (Below.refl _ _) (Nat.le_refl _) _
 have hA : At (w.alloc (.cells #[x0, x1, x2, x3, x4, x5, p] 33)) (fun b => S b ∨ b = w.heap.size) a w.heap.size 0 p := by
  refine ⟨⟨.inr rfl, _, _, heap_alloc_new w _⟩, fun j u hj => ?_, (h.below hS hb).more fun _ h => .inl h⟩
  rw [Nat.zero_add, cell_of_row _ _ _ _ _ _ (heap_alloc_new w _), ← hj, e]
  simp
 have call := qh9 (countO a.nodes a w.heap.size 0 p 0 _ _ (Nat.le_refl _) hA (by omega) (by omega))
 unfold vO
 rw [e]
 clear e hA
 go_enter Tryz.func128, Tryz.ntmps128
 go_wp2_with fail
 refine call.out.mono ?_
 rintro e w' ⟨rfl, rfl⟩
 have HB := qh9 hb
 clear hb
 go_wp2
 go_ret
 exact ⟨ret_int (by omega), HB.out⟩
def Ob.cnt : Ob → Nat → Option Nat
 | .cons _ d, n => d.cnt (n + 1)
 | x, n => if x = .nil then some n else none
theorem make_rowN {P : Program} (t e : TypeId) (i : TypeInfo) (z : Value) (ht : P.underlying t = some (.slice e)) (hi : P.info? e = some i) (hz : i.zero = some z)
 (kl kc : IntKind) (n c : Nat) (hnc : n ≤ c) (hbytes : i.bytes * c ≤ 281474976710656) (h63 : c ≤ 9223372036854775807) (w : World) :
 (Instr.makeSlice t (.int kl (n : Int)) (.int kc (c : Int))).run P w = .ok (.slice (some ⟨w.heap.size, 0, none⟩) n c) (w.alloc (.cells (madeCells z.cells (c * i.size)) e)) := by
 have hb : (i.bytes : Int) * (c : Int) ≤ 281474976710656 := by
  have h : ((i.bytes * c : Nat) : Int) ≤ 281474976710656 := by omega
  rwa [Int.natCast_mul] at h
 have hr := run_make (P := P) w t e i z ht hi hz kl kc n c (by omega) (by omega) hb (by omega)
 simp only [Int.toNat_natCast] at hr
 exact hr
theorem info_of {P : Program} {t : TypeId} {z : Value} {a b : Nat} (h : (P.info? t).map (fun i => (i.zero, i.size, i.bytes)) = some (some z, a, b)) : ∃ i, P.info? t = some i ∧ i.zero = some z ∧ i.size = a ∧ i.bytes = b := by
 generalize P.info? t = x at h ⊢
 cases x with
 | none => cases h
 | some j =>
  simp only [Option.map_some, Option.some.injEq, Prod.mk.injEq] at h
  exact ⟨j, rfl, h.1, h.2.1, h.2.2⟩
def zeroO : Value := .agg #[.int .i64 0, e0, e0, e0, e0, e0, .slice none 0 0]
theorem setCells_other (g k : Nat) (h : k ≠ g) : ∀ (vs : List Value) (o : Nat) (w : World), (w.setCells g o vs).heap[k]? = w.heap[k]?
 | [], _, _ => rfl
 | v :: r, o, w => (setCells_other g k h r (o + 1) _).trans (Below.heap_setCell w ⟨g, o, none⟩ v k h)
theorem setCells_below {B g : Nat} {w0 : World} (hg : B ≤ g) : ∀ (vs : List Value) (o : Nat) (w : World), Below B w0 w → Below B w0 (w.setCells g o vs)
 | [], _, _, h => h
 | v :: r, o, w, h => setCells_below hg r (o + 1) _ (h.setCell hg v)

def QuietV (w : World) (v : Value) (e : Ending) (w' : World) : Prop := e = .returned v ∧ ∃ n, w' = w.drewN n
theorem QuietV.below {w w' : World} {v : Value} {e : Ending} (h : QuietV w v e w') : e = .returned v ∧ Below w.heap.size w w' := by
 obtain ⟨h1, n, rfl⟩ := h
 exact ⟨h1, rfl, rfl, rfl, Nat.le_refl _, fun _ _ => rfl⟩
theorem quiet_same {P : Program} {f : FuncId} {args : Array Value} {w : World} {n : Nat} {v : Value}
 (h : Calls P f args (w.drewN n) fun e w' => e = .returned v ∧ w.drewN n = w') : Calls P f args (w.drewN n) fun e w'' => e = .returned v ∧ ∃ m, w'' = w.drewN m :=
 h.mono fun _ _ ⟨he, hm⟩ => ⟨he, n, hm.symm⟩

theorem sameRaw (b k b' k' : Nat) (w : World) (x y : Int) (s1 s2 s3 s4 s5 t1 t2 t3 t4 t5 : ByteArray)
 (l0 : w.cell? ⟨b, k, none⟩ = some (.int .i64 x)) (l1 : w.cell? ⟨b, k + 1, none⟩ = some (.string s1)) (l2 : w.cell? ⟨b, k + 2, none⟩ = some (.string s2)) (l3 : w.cell? ⟨b, k + 3, none⟩ = some (.string s3)) (l4 : w.cell? ⟨b, k + 4, none⟩ = some (.string s4)) (l5 : w.cell? ⟨b, k + 5, none⟩ = some (.string s5))
 (m0 : w.cell? ⟨b', k', none⟩ = some (.int .i64 y)) (m1 : w.cell? ⟨b', k' + 1, none⟩ = some (.string t1)) (m2 : w.cell? ⟨b', k' + 2, none⟩ = some (.string t2)) (m3 : w.cell? ⟨b', k' + 3, none⟩ = some (.string t3)) (m4 : w.cell? ⟨b', k' + 4, none⟩ = some (.string t4)) (m5 : w.cell? ⟨b', k' + 5, none⟩ = some (.string t5)) :
 Calls Tryz.prog 165 #[.pointer (some ⟨b, k, none⟩), .pointer (some ⟨b', k', none⟩)] w (QuietV w (.bool (x == y && eqS s1 s2 s3 s4 s5 t1 t2 t3 t4 t5))) := by
 cases h0 : (x == y) with
 | false =>
  have hr : (false && eqS s1 s2 s3 s4 s5 t1 t2 t3 t4 t5) = false := rfl
  have hn : (x != y) = true := by rw [bne, h0]; rfl
  rw [hr]
  clear hr
  go_enter Tryz.func165, Tryz.ntmps165
  go_wp2_with fail
  go_quiet (fail)
  go_wp2
  go_ret
  exact ⟨rfl, _, rfl⟩
 | true =>
  cases h1 : (s1.toList == t1.toList) with
  | false =>
   have hr : (true && eqS s1 s2 s3 s4 s5 t1 t2 t3 t4 t5) = false := by unfold eqS; rw [h1]; simp
   rw [hr]
   clear hr
   go_enter Tryz.func165, Tryz.ntmps165
   go_wp2_with fail
   go_quiet (fail)
   go_wp2
   go_ret
   exact ⟨rfl, _, rfl⟩
  | true =>
   cases h2 : (s2.toList == t2.toList) with
   | false =>
    have hr : (true && eqS s1 s2 s3 s4 s5 t1 t2 t3 t4 t5) = false := by unfold eqS; rw [h1, h2]; simp
    rw [hr]
    clear hr
    go_enter Tryz.func165, Tryz.ntmps165
    go_wp2_with fail
    go_quiet (fail)
    go_wp2
    go_ret
    exact ⟨rfl, _, rfl⟩
   | true =>
    cases h3 : (s3.toList == t3.toList) with
    | false =>
     have hr : (true && eqS s1 s2 s3 s4 s5 t1 t2 t3 t4 t5) = false := by unfold eqS; rw [h1, h2, h3]; simp
     rw [hr]
     clear hr
     go_enter Tryz.func165, Tryz.ntmps165
     go_wp2_with fail
     go_quiet (fail)
     go_wp2
     go_ret
     exact ⟨rfl, _, rfl⟩
    | true =>
     cases h4 : (s4.toList == t4.toList) with
     | false =>
      have hr : (true && eqS s1 s2 s3 s4 s5 t1 t2 t3 t4 t5) = false := by unfold eqS; rw [h1, h2, h3, h4]; simp
      rw [hr]
      clear hr
      go_enter Tryz.func165, Tryz.ntmps165
      go_wp2_with fail
      go_quiet (fail)
      go_wp2
      go_ret
      exact ⟨rfl, _, rfl⟩
     | true =>
      cases h5 : (s5.toList == t5.toList) with
      | false =>
       have hr : (true && eqS s1 s2 s3 s4 s5 t1 t2 t3 t4 t5) = false := by unfold eqS; rw [h1, h2, h3, h4, h5]; simp
       rw [hr]
       clear hr
       go_enter Tryz.func165, Tryz.ntmps165
       go_wp2_with fail
       go_quiet (fail)
       go_wp2
       go_ret
       exact ⟨rfl, _, rfl⟩
      | true =>
       have hr : (true && eqS s1 s2 s3 s4 s5 t1 t2 t3 t4 t5) = true := by unfold eqS; rw [h1, h2, h3, h4, h5]; rfl
       rw [hr]
       clear hr
       go_enter Tryz.func165, Tryz.ntmps165
       go_wp2_with fail
       go_quiet (fail)
       go_wp2
       go_ret
       exact ⟨rfl, _, rfl⟩
theorem cmpInt (x y : Int) (w : World) (h : x ≠ y) :
 Calls Tryz.prog 144 #[.int .i64 x, .int .i64 y] w fun e w' => e = .returned (.int .i64 (ordI x y)) ∧ w = w' := by
 rcases Int.lt_trichotomy x y with g | g | g
 · have ho := qh9 (ordI_lt g)
   go_enter Tryz.func144, Tryz.ntmps144
   go_wp2
   go_ret
   exact ⟨ret_int ho.out.symm, rfl⟩
 · exact absurd g h
 · have ho := qh9 (ordI_gt g)
   have g2 : ¬ x < y := by omega
   have e1 : (x == x) = true := by simp
   go_enter Tryz.func144, Tryz.ntmps144
   go_wp2
   go_ret
   exact ⟨ret_int ho.out.symm, rfl⟩

theorem cmpTexts (l l' : List UInt8) (s t : ByteArray) (w : World) (hs : Hid (LA s = body l)) (ht : Hid (LA t = body l')) (h1 : s.size ≤ 1000000000) (h2 : t.size ≤ 1000000000) :
 Calls Tryz.prog 198 #[.string s, .string t] w fun e w' => e = .returned (.int .i64 (ordN (mag l) (mag l'))) ∧ w = w' := by
 by_cases hl : s.size = t.size
 · have hl2 : (((s.size : Int)) == (t.size : Int)) = true := by rw [hl]; simp
   have hl3 : (((s.size : Int)) != (t.size : Int)) = false := by rw [hl]; simp
   have ho : Hid (Lib.compareBytes s.data.toList t.data.toList = ordN (mag l) (mag l')) := by
    show Lib.compareBytes (LA s) (LA t) = _
    rw [hs.out, ht.out]
    exact compare_bodies (by rw [← hs.out, ← ht.out, LA_length, LA_length, hl])
   clear hl
   go_enter Tryz.func198, Tryz.ntmps198
   go_wp2_with fail
   refine (Tryz.strings_Compare s t _).mono ?_
   rintro e w' ⟨rfl, rfl⟩
   rw [ho.out]
   go_wp2
   go_ret
   exact ⟨rfl, rfl⟩
 · have hl2 : (((s.size : Int)) == (t.size : Int)) = false := by rw [beq_eq_false_iff_ne]; omega
   have hl3 : (((s.size : Int)) != (t.size : Int)) = true := by rw [bne_iff_ne]; omega
   have ho : Hid (ordI s.size t.size = ordN (mag l) (mag l')) := by
    show _ = _
    rcases Nat.lt_or_ge s.size t.size with g | g
    · rw [ordI_lt (by omega), ordN_lt (mag_lt_of_len (by rw [← hs.out, ← ht.out, LA_length, LA_length]; exact g))]
    · rw [ordI_gt (by omega), ordN_gt (mag_lt_of_len (by rw [← hs.out, ← ht.out, LA_length, LA_length]; omega))]
   have hne : (s.size : Int) ≠ (t.size : Int) := by omega
   replace hne := qh9 hne
   clear hl
   go_enter Tryz.func198, Tryz.ntmps198
   go_wp2_with fail
   refine (cmpInt _ _ _ hne.out).mono ?_
   rintro e w' ⟨rfl, rfl⟩
   rw [ho.out]
   go_wp2
   go_ret
   exact ⟨rfl, rfl⟩

theorem compare_any (s t : ByteArray) (w : World) (hs : s.size ≤ 400000000) (ht : t.size ≤ 400000000) :
 Calls Tryz.prog 184 #[.string s, .string t] w fun e w' => e = .returned (.int .i64 (ordI (val (LA s)) (val (LA t)))) ∧ w = w' := by
 obtain ⟨x, hx⟩ : ∃ x, BA (body (LA s)) = x := ⟨_, rfl⟩
 obtain ⟨y, hy⟩ : ∃ y, BA (body (LA t)) = y := ⟨_, rfl⟩
 have bx : Hid (LA x = body (LA s)) := by show _ = _; rw [← hx]; rfl
 have bY : Hid (LA y = body (LA t)) := by show _ = _; rw [← hy]; rfl
 have sx : x.size ≤ 1000000000 := by have := body_length (LA s); rw [← LA_length, bx.out]; rw [LA_length] at this; omega
 have sy : y.size ≤ 1000000000 := by have := body_length (LA t); rw [← LA_length, bY.out]; rw [LA_length] at this; omega
 rw [val_eq, val_eq]
 have nx := @neg_mag (LA s)
 have ny := @neg_mag (LA t)
 have Hx := qh9 hx
 have Hy := qh9 hy
 clear hx hy
 cases hb : neg (LA s) <;> cases hb' : neg (LA t) <;> rw [hb] at nx <;> rw [hb'] at ny <;> have Hb := qh9 hb <;> have Hb' := qh9 hb' <;> clear hb hb' <;> (go_enter Tryz.func184, Tryz.ntmps184)
 · rw [ord_ff]
   clear nx ny
   go_wp2_with fail
   refine (split_any s _ (by unfold maxLen; omega)).mono ?_
   rintro e w' ⟨rfl, rfl⟩
   rw [Hx.out, Hb.out]
   go_wp2_with fail
   refine (split_any t _ (by unfold maxLen; omega)).mono ?_
   rintro e w' ⟨rfl, rfl⟩
   rw [Hy.out, Hb'.out]
   go_wp2_with fail
   refine (cmpTexts (LA s) (LA t) x y _ bx bY sx sy).mono ?_
   rintro e w' ⟨rfl, rfl⟩
   go_wp2
   go_ret
   exact ⟨rfl, rfl⟩
 · rw [ord_ft (ny rfl)]
   clear nx ny
   go_wp2_with fail
   refine (split_any s _ (by unfold maxLen; omega)).mono ?_
   rintro e w' ⟨rfl, rfl⟩
   rw [Hx.out, Hb.out]
   go_wp2_with fail
   refine (split_any t _ (by unfold maxLen; omega)).mono ?_
   rintro e w' ⟨rfl, rfl⟩
   rw [Hy.out, Hb'.out]
   go_wp2
   go_ret
   exact ⟨rfl, rfl⟩
 · rw [ord_tf (nx rfl)]
   clear nx ny
   go_wp2_with fail
   refine (split_any s _ (by unfold maxLen; omega)).mono ?_
   rintro e w' ⟨rfl, rfl⟩
   rw [Hx.out, Hb.out]
   go_wp2_with fail
   refine (split_any t _ (by unfold maxLen; omega)).mono ?_
   rintro e w' ⟨rfl, rfl⟩
   rw [Hy.out, Hb'.out]
   go_wp2
   go_ret
   exact ⟨rfl, rfl⟩
 · rw [ord_tt]
   clear nx ny
   go_wp2_with fail
   refine (split_any s _ (by unfold maxLen; omega)).mono ?_
   rintro e w' ⟨rfl, rfl⟩
   rw [Hx.out, Hb.out]
   go_wp2_with fail
   refine (split_any t _ (by unfold maxLen; omega)).mono ?_
   rintro e w' ⟨rfl, rfl⟩
   rw [Hy.out, Hb'.out]
   go_wp2_with fail
   refine (cmpTexts (LA t) (LA s) y x _ bY bx sy sx).mono ?_
   rintro e w' ⟨rfl, rfl⟩
   go_wp2
   go_ret
   exact ⟨rfl, rfl⟩

theorem digits_any (s : ByteArray) (w : World) (hs : s.size ≤ 400000000) :
 Calls Tryz.prog 196 #[.string s] w fun e w' => e = .returned (.int .i64 ((body (LA s)).length : Nat)) ∧ w = w' := by
 obtain ⟨x, hx⟩ : ∃ x, BA (body (LA s)) = x := ⟨_, rfl⟩
 have hl : Hid ((body (LA s)).length = x.size) := by show _ = _; rw [← hx]; rfl
 rw [hl.out]
 have Hx := qh9 hx
 clear hx
 go_enter Tryz.func196, Tryz.ntmps196
 go_wp2_with fail
 refine (split_any s _ (by unfold maxLen; omega)).mono ?_
 rintro e w' ⟨rfl, rfl⟩
 rw [Hx.out]
 go_wp2
 go_ret
 exact ⟨rfl, rfl⟩
def fO : Ob → Int × ByteArray × ByteArray × ByteArray × ByteArray × ByteArray
 | .num q => (1, nt q, dt q, ⟨#[]⟩, ⟨#[]⟩, ⟨#[]⟩)
 | .str s => (3, ⟨#[]⟩, ⟨#[]⟩, ⟨#[]⟩, ⟨#[]⟩, BA s)
 | .sym a n => (2, ⟨#[]⟩, ⟨#[]⟩, BA a, BA n, ⟨#[]⟩)
 | .cons _ _ => (4, ⟨#[]⟩, ⟨#[]⟩, ⟨#[]⟩, ⟨#[]⟩, ⟨#[]⟩)
theorem cellsO_f (o : Ob) (p : Value) : cellsO o p = [.int .i64 (fO o).1, .string (fO o).2.1, .string (fO o).2.2.1, .string (fO o).2.2.2.1, .string (fO o).2.2.2.2.1, .string (fO o).2.2.2.2.2, p] := by
 cases o <;> rfl
def Ob.same (a b : Ob) : Bool := (a.isCons && b.isCons) || decide (a = b)
theorem same_f (a b : Ob) : ((fO a).1 == (fO b).1 && eqS (fO a).2.1 (fO a).2.2.1 (fO a).2.2.2.1 (fO a).2.2.2.2.1 (fO a).2.2.2.2.2 (fO b).2.1 (fO b).2.2.1 (fO b).2.2.2.1 (fO b).2.2.2.2.1 (fO b).2.2.2.2.2) = a.same b := by
 cases a with
 | num q =>
  cases b with
  | num q' => show (true && eqS (nt q) (dt q) ⟨#[]⟩ ⟨#[]⟩ ⟨#[]⟩ (nt q') (dt q') ⟨#[]⟩ ⟨#[]⟩ ⟨#[]⟩) = decide (Ob.num q = Ob.num q'); unfold eqS; rw [q_beq]; simp
  | str s => simp [fO, Ob.same, Ob.isCons]
  | sym x y => simp [fO, Ob.same, Ob.isCons]
  | cons x y => simp [fO, Ob.same, Ob.isCons]
 | str s =>
  cases b with
  | str s' => show (true && eqS ⟨#[]⟩ ⟨#[]⟩ ⟨#[]⟩ ⟨#[]⟩ (BA s) ⟨#[]⟩ ⟨#[]⟩ ⟨#[]⟩ ⟨#[]⟩ (BA s')) = decide (Ob.str s = Ob.str s'); unfold eqS; rw [beq_BA]; simp
  | num q => simp [fO, Ob.same, Ob.isCons]
  | sym x y => simp [fO, Ob.same, Ob.isCons]
  | cons x y => simp [fO, Ob.same, Ob.isCons]
 | sym x y =>
  cases b with
  | sym x' y' => show (true && eqS ⟨#[]⟩ ⟨#[]⟩ (BA x) (BA y) ⟨#[]⟩ ⟨#[]⟩ ⟨#[]⟩ (BA x') (BA y') ⟨#[]⟩) = decide (Ob.sym x y = Ob.sym x' y'); unfold eqS; rw [beq_BA, beq_BA]; simp
  | num q => simp [fO, Ob.same, Ob.isCons]
  | str s => simp [fO, Ob.same, Ob.isCons]
  | cons x y => simp [fO, Ob.same, Ob.isCons]
 | cons x y =>
  cases b with
  | cons x' y' => show (true && eqS ⟨#[]⟩ ⟨#[]⟩ ⟨#[]⟩ ⟨#[]⟩ ⟨#[]⟩ ⟨#[]⟩ ⟨#[]⟩ ⟨#[]⟩ ⟨#[]⟩ ⟨#[]⟩) = true; unfold eqS; simp
  | num q => simp [fO, Ob.same, Ob.isCons]
  | str s => simp [fO, Ob.same, Ob.isCons]
  | sym x y => simp [fO, Ob.same, Ob.isCons]
theorem sameP (a a' : Ob) (b k b' k' : Nat) (p p' : Value) (w : World) (S : Nat → Prop) (h : At w S a b k p) (h' : At w S a' b' k' p') :
 Calls Tryz.prog 165 #[.pointer (some ⟨b, k, none⟩), .pointer (some ⟨b', k', none⟩)] w (QuietV w (.bool (a.same a'))) := by
 obtain ⟨x0, x1, x2, x3, x4, x5, e, l0, l1, l2, l3, l4, l5, l6⟩ := h.cells
 obtain ⟨y0, y1, y2, y3, y4, y5, e', m0, m1, m2, m3, m4, m5, m6⟩ := h'.cells
 rw [cellsO_f] at e e'
 simp only [List.cons.injEq, and_true] at e e'
 obtain ⟨rfl, rfl, rfl, rfl, rfl, rfl⟩ := e
 obtain ⟨rfl, rfl, rfl, rfl, rfl, rfl⟩ := e'
 rw [← same_f]
 exact sameRaw b k b' k' w _ _ _ _ _ _ _ _ _ _ _ _ l0 l1 l2 l3 l4 l5 m0 m1 m2 m3 m4 m5

def rankI (k : Int) : Int := if k = 1 then 1 else if k = 3 then 2 else if k = 2 then 3 else if k = 4 then 4 else 0
theorem rankP (k : Int) (w : World) : Calls Tryz.prog 177 #[.int .i64 k] w fun e w' => e = .returned (.int .i64 (rankI k)) ∧ w = w' := by
 by_cases h : k = 1 ∨ k = 2 ∨ k = 3 ∨ k = 4
 · rcases h with rfl | rfl | rfl | rfl
   all_goals
    go_enter Tryz.func177, Tryz.ntmps177
    go_wp2
    go_ret
    exact ⟨rfl, rfl⟩
 · have h1 : (k == 1) = false := by rw [beq_eq_false_iff_ne]; intro e; exact h (.inl e)
   have h2 : (k == 2) = false := by rw [beq_eq_false_iff_ne]; intro e; exact h (.inr (.inl e))
   have h3 : (k == 3) = false := by rw [beq_eq_false_iff_ne]; intro e; exact h (.inr (.inr (.inl e)))
   have h4 : (k == 4) = false := by rw [beq_eq_false_iff_ne]; intro e; exact h (.inr (.inr (.inr e)))
   have hr := qh9 (show (0 : Int) = rankI k by unfold rankI; rw [if_neg (by omega), if_neg (by omega), if_neg (by omega), if_neg (by omega)])
   clear h
   go_enter Tryz.func177, Tryz.ntmps177
   go_wp2
   go_ret
   exact ⟨ret_int hr.out, rfl⟩
theorem cmpAny (x y : Int) (w : World) : Calls Tryz.prog 144 #[.int .i64 x, .int .i64 y] w fun e w' => e = .returned (.int .i64 (ordI x y)) ∧ w = w' := by
 by_cases h : x = y
 · subst h
   have ho := qh9 (show ordI x x = 0 by unfold ordI; rw [if_neg (by omega), if_neg (by omega)])
   have hn : ¬ x < x := by omega
   go_enter Tryz.func144, Tryz.ntmps144
   go_wp2
   go_ret
   exact ⟨ret_int ho.out.symm, rfl⟩
 · exact cmpInt x y w h
theorem orP (c d : Int) (g : Nat) (w : World) (h0 : w.cell? ⟨g, 0, none⟩ = some (.int .i64 c)) (h1 : w.cell? ⟨g, 1, none⟩ = some (.int .i64 d)) :
 Calls Tryz.prog 180 #[.slice (some ⟨g, 0, none⟩) 2 2] w fun e w' => e = .returned (.int .i64 (next c d)) ∧ w = w' := by
 obtain ⟨r, hr⟩ : ∃ r, next c d = r := ⟨_, rfl⟩
 have HR := qh9 hr
 rw [hr]
 clear hr
 go_enter Tryz.func180, Tryz.ntmps180
 go_wp2_with fail
 go_loop [8] (fun v => ∃ i : Nat, i ≤ 2 ∧ v = .int .i64 i ∧ Hid ((0 < i → c = 0) ∧ (1 < i → d = 0))) (fun v => 2 - (intOf v).toNat)
 case atStart => exact ⟨0, by omega, rfl, ⟨fun h => by omega, fun h => by omega⟩⟩
 case round =>
  obtain ⟨i, hi, rfl, hE⟩ := hrel
  have hi3 : i = 0 ∨ i = 1 ∨ i = 2 := by omega
  rcases hi3 with rfl | rfl | rfl
  · by_cases hc : c = 0
    · have hn : (c != 0) = false := by subst hc; rfl
      have HC := qh9 hc
      clear hc
      go_wp2
      go_round
      case rel => exact ⟨1, by omega, rfl, ⟨fun _ => HC.out, fun h => by omega⟩⟩
      case measure => simp [intOf]
    · have hn : (c != 0) = true := by rw [bne_iff_ne]; exact hc
      have hr := qh9 (show c = r by rw [← HR.out]; unfold next; rw [if_neg hc])
      clear hc
      go_wp2
      go_ret
      exact ⟨ret_int hr.out, rfl⟩
  · have hc := hE.out.1 (by omega)
    by_cases hd : d = 0
    · have hn : (d != 0) = false := by subst hd; rfl
      have HC := qh9 hc
      have HD := qh9 hd
      clear hc hd
      go_wp2
      go_round
      case rel => exact ⟨2, by omega, rfl, ⟨fun _ => HC.out, fun h => HD.out⟩⟩
      case measure => simp [intOf]
    · have hn : (d != 0) = true := by rw [bne_iff_ne]; exact hd
      have hr := qh9 (show d = r by rw [← HR.out]; unfold next; rw [if_pos hc])
      clear hc hd
      go_wp2
      go_ret
      exact ⟨ret_int hr.out, rfl⟩
  · have hr := qh9 (show (0 : Int) = r by rw [← HR.out]; unfold next; rw [if_pos (hE.out.1 (by omega)), hE.out.2 (by omega)])
    go_wp2
    go_ret
    exact ⟨ret_int hr.out, rfl⟩
theorem ordI_mul (x y : Int) (d : Nat) (hd : 0 < d) : ordI (x * (d : Int)) (y * (d : Int)) = ordI x y := by
 have hd' : (0 : Int) < d := by omega
 unfold ordI
 simp only [Int.mul_lt_mul_right hd']
theorem dt_beq {x y : Rat} : ((dt x).toList == (dt y).toList) = decide (x.den = y.den) := by
 unfold dt
 rw [beq_BA]
 by_cases h : x.den = y.den
 · rw [h]; simp
 · rw [decide_eq_false h, decide_eq_false]
   intro e
   have := congrArg val e
   rw [val_text, val_text] at this
   exact h (by exact_mod_cast this)
theorem chain2 {B : Nat} {w w1 w2 : World} (h : Below B w w1) (hb : Below w1.heap.size w1 w2) (hB : B ≤ w.heap.size) : Below B w w2 := h.trans (hb.mono (Nat.le_trans hB h.size))

theorem cmpNumP (k : Nat) (hk : k ≤ 1000) (x y : Rat) (w : World) (hx : Bd k x) (hy : Bd k y) :
 Calls Tryz.prog 178 #[vO (.num x) (.slice none 0 0), vO (.num y) (.slice none 0 0)] w (RetI w (ordQ x y)) := by
 have b1 := bd_nt hx
 have b2 := bd_dt hx
 have b3 := bd_nt hy
 have b4 := bd_dt hy
 have v1 := qh9 (val_nt x)
 have v2 := qh9 (val_dt x)
 have v3 := qh9 (val_nt y)
 have v4 := qh9 (val_dt y)
 cases hd : ((dt x).toList == (dt y).toList) with
 | true =>
  have hR : Hid (ordI (val (LA (nt x))) (val (LA (nt y))) = ordQ x y) := by
   show _ = _
   rw [dt_beq] at hd
   have hd := of_decide_eq_true hd
   rw [v1.out, v3.out, ← ordQ_eq, hd, ordI_mul _ _ _ y.den_pos]
  change Calls Tryz.prog 178 #[.agg #[.int .i64 1, .string (nt x), .string (dt x), e0, e0, e0, .slice none 0 0], .agg #[.int .i64 1, .string (nt y), .string (dt y), e0, e0, e0, .slice none 0 0]] w _
  generalize nt x = nx at b1 hR v1 ⊢
  generalize dt x = dx at b2 hd v2 ⊢
  generalize nt y = ny at b3 hR v3 ⊢
  generalize dt y = dy at b4 hd v4 ⊢
  go_enter Tryz.func178, Tryz.ntmps178
  go_wp2_with fail
  refine (compare_any nx ny _ (by omega) (by omega)).mono ?_
  rintro e w' ⟨rfl, rfl⟩
  go_wp2
  go_ret
  exact ⟨ret_int hR.out, Below.alloc (Below.alloc (Below.refl _ _) (Nat.le_refl _) _) (by simp) _⟩
 | false =>
  have hR : Hid (ordI (val (LA (BA (text (val (LA (nt x)) * val (LA (dt y))))))) (val (LA (BA (text (val (LA (nt y)) * val (LA (dt x))))))) = ordQ x y) := by
   show _ = _
   rw [LA_BA, LA_BA, val_text, val_text, v1.out, v2.out, v3.out, v4.out, ordQ_eq]
  have s1 : (BA (text (val (LA (nt x)) * val (LA (dt y))))).size ≤ 3000 := by
   rw [v1.out, v4.out, BA_size]
   refine Nat.le_trans (text_length (k := k + k) ?_) (by omega)
   rw [Int.natAbs_mul]
   exact lt_pow_mul hx.1 hy.2
  have s2 : (BA (text (val (LA (nt y)) * val (LA (dt x))))).size ≤ 3000 := by
   rw [v3.out, v2.out, BA_size]
   refine Nat.le_trans (text_length (k := k + k) ?_) (by omega)
   rw [Int.natAbs_mul]
   exact lt_pow_mul hy.1 hx.2
  change Calls Tryz.prog 178 #[.agg #[.int .i64 1, .string (nt x), .string (dt x), e0, e0, e0, .slice none 0 0], .agg #[.int .i64 1, .string (nt y), .string (dt y), e0, e0, e0, .slice none 0 0]] w _
  generalize nt x = nx at b1 hR v1 s1 s2 ⊢
  generalize dt x = dx at b2 hd v2 hR s1 s2 ⊢
  generalize nt y = ny at b3 hR v3 s1 s2 ⊢
  generalize dt y = dy at b4 hd v4 hR s1 s2 ⊢
  clear v1 v2 v3 v4 hx hy
  go_enter Tryz.func178, Tryz.ntmps178
  go_wp2_with fail
  have c1 : ((w.alloc (.cells #[.int .i64 1, .string nx, .string dx, e0, e0, e0, .slice none 0 0] 33)).alloc (.cells #[.int .i64 1, .string ny, .string dy, e0, e0, e0, .slice none 0 0] 33)).heap[w.heap.size]? = _ := heap_alloc2_old w _ _
  have c2 : ((w.alloc (.cells #[.int .i64 1, .string nx, .string dx, e0, e0, e0, .slice none 0 0] 33)).alloc (.cells #[.int .i64 1, .string ny, .string dy, e0, e0, e0, .slice none 0 0] 33)).heap[w.heap.size + 1]? = _ := heap_alloc2_new w _ _
  have hW := Below.alloc (Below.alloc (Below.refl w.heap.size w) (Nat.le_refl _) (.cells #[.int .i64 1, .string nx, .string dx, e0, e0, e0, .slice none 0 0] 33)) (by simp) (.cells #[.int .i64 1, .string ny, .string dy, e0, e0, e0, .slice none 0 0] 33)
  have hz : ((w.alloc (.cells #[.int .i64 1, .string nx, .string dx, e0, e0, e0, .slice none 0 0] 33)).alloc (.cells #[.int .i64 1, .string ny, .string dy, e0, e0, e0, .slice none 0 0] 33)).heap.size = w.heap.size + 2 := by simp
  unfold e0 at c1 c2 hW hz ⊢
  generalize (w.alloc (.cells #[.int .i64 1, .string nx, .string dx, .string ⟨#[]⟩, .string ⟨#[]⟩, .string ⟨#[]⟩, .slice none 0 0] 33)).alloc (.cells #[.int .i64 1, .string ny, .string dy, .string ⟨#[]⟩, .string ⟨#[]⟩, .string ⟨#[]⟩, .slice none 0 0] 33) = W at c1 c2 hW hz ⊢
  have HC : Hid (∀ W', Below W.heap.size W W' → W'.cell? ⟨w.heap.size, 1, none⟩ = some (.string nx) ∧ W'.cell? ⟨w.heap.size, 2, none⟩ = some (.string dx) ∧ W'.cell? ⟨w.heap.size + 1, 1, none⟩ = some (.string ny) ∧ W'.cell? ⟨w.heap.size + 1, 2, none⟩ = some (.string dy)) := by
   intro W' hb
   have d1 := (hb.block w.heap.size (by omega)).trans c1
   have d2 := (hb.block (w.heap.size + 1) (by omega)).trans c2
   refine ⟨?_, ?_, ?_, ?_⟩
   · rw [cell_of_row _ _ _ _ _ _ d1]; rfl
   · rw [cell_of_row _ _ _ _ _ _ d1]; rfl
   · rw [cell_of_row _ _ _ _ _ _ d2]; rfl
   · rw [cell_of_row _ _ _ _ _ _ d2]; rfl
  obtain ⟨q1, q2, q3, q4⟩ := HC.out W (Below.refl _ _)
  have hB0 : Below W.heap.size W W.drew := (Below.refl _ _).drew
  clear c1 c2
  go_wp2_with fail
  go_region_held3 (fun W' => W'.cell? ⟨w.heap.size, 1, none⟩ = some (.string nx) ∧ W'.cell? ⟨w.heap.size, 2, none⟩ = some (.string dx) ∧ W'.cell? ⟨w.heap.size + 1, 1, none⟩ = some (.string ny) ∧ W'.cell? ⟨w.heap.size + 1, 2, none⟩ = some (.string dy)) (go_keep)
   (first | (go_at_call 193; refine (multiply_any _ _ _ (by omega) (by omega)).mono ?_; rintro e w3 ⟨rfl, hb3⟩; have hB3 := chain2 ‹Below W.heap.size W _› hb3 (Nat.le_refl _); obtain ⟨j1, j2, j3, j4⟩ := HC.out _ hB3) | (go_at_call 184; refine (compare_any _ _ _ (by omega) (by omega)).mono ?_; rintro e w4 ⟨rfl, rfl⟩))
  all_goals go_wp2
  all_goals go_ret
  all_goals exact ⟨ret_int hR.out, hW.trans ((‹Below W.heap.size W _› : Below W.heap.size W _).mono (by omega))⟩
theorem kindI (o : Ob) : (fO o).1 = 1 ∨ (fO o).1 = 2 ∨ (fO o).1 = 3 ∨ (fO o).1 = 4 := by cases o <;> simp [fO]
theorem rank_f (o : Ob) : rankI (fO o).1 = o.rank := by cases o <;> rfl
def ordF (a b : Ob) : Int := if a.isCons && b.isCons then 0 else ordO a b
theorem ordF_ne {a b : Ob} (h : a.rank ≠ b.rank) : ordI (rankI (fO a).1) (rankI (fO b).1) = ordF a b ∧ ordI (rankI (fO a).1) (rankI (fO b).1) ≠ 0 := by
 rw [rank_f, rank_f]
 unfold ordF
 have hc : (a.isCons && b.isCons) = false := by cases a <;> cases b <;> first | rfl | exact absurd rfl h
 rw [hc]
 simp only [Bool.false_eq_true, if_false]
 rcases Int.lt_or_gt_of_ne h with g | g
 · rw [ordO_less g, ordI_lt g]; exact ⟨rfl, by omega⟩
 · rw [ordO_more g, ordI_gt g]; exact ⟨rfl, by omega⟩

theorem cmpF_ne (b k b' k' : Nat) (w : World) (x y : Int) (hx : x = 1 ∨ x = 2 ∨ x = 3 ∨ x = 4) (hy : y = 1 ∨ y = 2 ∨ y = 3 ∨ y = 4) (hr : ordI (rankI x) (rankI y) ≠ 0)
 (l0 : w.cell? ⟨b, k, none⟩ = some (.int .i64 x)) (m0 : w.cell? ⟨b', k', none⟩ = some (.int .i64 y)) :
 Calls Tryz.prog 164 #[.pointer (some ⟨b, k, none⟩), .pointer (some ⟨b', k', none⟩)] w (RetI w (ordI (rankI x) (rankI y))) := by
 have HX := qh9 hx
 have HY := qh9 hy
 have hn : (ordI (rankI x) (rankI y) != 0) = true := by rw [bne_iff_ne]; exact hr
 clear hx hy hr
 go_enter Tryz.func164, Tryz.ntmps164
 go_wp2_with fail
 go_quiet ((first | (go_at_call 177; exact quiet_same (rankP _ _)) | (go_at_call 144; exact quiet_same (cmpAny _ _ _))))
 go_wp2
 go_ret
 exact ⟨rfl, rfl, rfl, rfl, Nat.le_refl _, fun _ _ => rfl⟩

theorem cmpF_cons (b k b' k' : Nat) (w : World)
 (l0 : w.cell? ⟨b, k, none⟩ = some (.int .i64 4)) (m0 : w.cell? ⟨b', k', none⟩ = some (.int .i64 4)) :
 Calls Tryz.prog 164 #[.pointer (some ⟨b, k, none⟩), .pointer (some ⟨b', k', none⟩)] w (RetI w 0) := by
 have hn : ordI (rankI 4) (rankI 4) = 0 := rfl
 go_enter Tryz.func164, Tryz.ntmps164
 go_wp2_with fail
 go_quiet ((first | (go_at_call 177; exact quiet_same (rankP _ _)) | (go_at_call 144; exact quiet_same (cmpAny _ _ _))))
 go_wp2
 go_ret
 exact ⟨rfl, rfl, rfl, rfl, Nat.le_refl _, fun _ _ => rfl⟩

theorem strCmp (s t : ByteArray) (w : World) : Calls Tryz.prog 179 #[.string s, .string t] w fun e w' => e = .returned (.int .i64 (ordB (LA s) (LA t))) ∧ w = w' :=
 (Tryz.strings_Compare s t w).mono fun e w' ⟨h1, h2⟩ => ⟨h1, h2.symm⟩
theorem cmpF_str (b k b' k' : Nat) (w : World) (s t : ByteArray)
 (l0 : w.cell? ⟨b, k, none⟩ = some (.int .i64 3)) (m0 : w.cell? ⟨b', k', none⟩ = some (.int .i64 3))
 (l5 : w.cell? ⟨b, k + 5, none⟩ = some (.string s)) (m5 : w.cell? ⟨b', k' + 5, none⟩ = some (.string t)) :
 Calls Tryz.prog 164 #[.pointer (some ⟨b, k, none⟩), .pointer (some ⟨b', k', none⟩)] w (RetI w (ordB (LA s) (LA t))) := by
 have hn : ordI (rankI 3) (rankI 3) = 0 := rfl
 go_enter Tryz.func164, Tryz.ntmps164
 go_wp2_with fail
 go_quiet ((first | (go_at_call 177; exact quiet_same (rankP _ _)) | (go_at_call 144; exact quiet_same (cmpAny _ _ _))))
 go_wp2_with fail
 have Q : Below w.heap.size w (w.drewN nq) := ⟨rfl, rfl, rfl, Nat.le_refl _, fun _ _ => rfl⟩
 replace Q := qh9 Q
 change (w.drewN nq).cell? _ = _ at l5 m5
 clear l0 m0 hn
 generalize w.drewN nq = w1 at l5 m5 Q ⊢
 go_quiet ((go_at_call 179; exact quiet_same (strCmp _ _ _)))
 have Q2 := qh9 (Q.out.trans (⟨rfl, rfl, rfl, Nat.le_refl _, fun _ _ => rfl⟩ : Below w.heap.size w1 (w1.drewN nq)))
 go_wp2
 go_ret
 exact ⟨rfl, Q2.out⟩

theorem cmpF_sym (b k b' k' : Nat) (w : World) (s t s' t' : ByteArray)
 (l0 : w.cell? ⟨b, k, none⟩ = some (.int .i64 2)) (m0 : w.cell? ⟨b', k', none⟩ = some (.int .i64 2))
 (l3 : w.cell? ⟨b, k + 3, none⟩ = some (.string s)) (m3 : w.cell? ⟨b', k' + 3, none⟩ = some (.string s'))
 (l4 : w.cell? ⟨b, k + 4, none⟩ = some (.string t)) (m4 : w.cell? ⟨b', k' + 4, none⟩ = some (.string t')) :
 Calls Tryz.prog 164 #[.pointer (some ⟨b, k, none⟩), .pointer (some ⟨b', k', none⟩)] w (RetI w (ordS (LA s) (LA t) (LA s') (LA t'))) := by
 have hn : ordI (rankI 2) (rankI 2) = 0 := rfl
 go_enter Tryz.func164, Tryz.ntmps164
 go_wp2_with fail
 go_quiet ((first | (go_at_call 177; exact quiet_same (rankP _ _)) | (go_at_call 144; exact quiet_same (cmpAny _ _ _))))
 go_wp2_with fail
 have Q : Below w.heap.size w (w.drewN nq) := ⟨rfl, rfl, rfl, Nat.le_refl _, fun _ _ => rfl⟩
 replace Q := qh9 Q
 change (w.drewN nq).cell? _ = _ at l3 m3 l4 m4
 clear l0 m0 hn
 generalize w.drewN nq = w1 at l3 m3 l4 m4 Q ⊢
 go_still_tail 22, (by kernel_rfl)
 still_call (Tryz.strings_Compare t t' _)
 repeat still_step
 still_call (Tryz.strings_Compare s s' _)
 refine wpStill_nil ?_
 change wpList _ _ _ _ _ w1.drew
 have Q2 := Q.out.drew
 clear l3 m3 l4 m4
 generalize w1.drew = w2 at Q2 ⊢
 go_wp2_with fail
 refine (orP _ _ _ _ (by rw [cell_of_row _ _ _ _ _ _ (heap_alloc_new w2 _)]; rfl) (by rw [cell_of_row _ _ _ _ _ _ (heap_alloc_new w2 _)]; rfl)).mono ?_
 rintro e w3 ⟨rfl, rfl⟩
 have Q3 := qh9 (Below.alloc Q2 Q2.size (.cells #[.int .i64 (Lib.compareBytes t.data.toList t'.data.toList), .int .i64 (Lib.compareBytes s.data.toList s'.data.toList)] 3))
 clear Q2
 go_wp2
 go_ret
 exact ⟨rfl, Q3.out⟩

theorem cmpF_num (d : Nat) (hd : d ≤ 1000) (x y : Rat) (hx : Bd d x) (hy : Bd d y) (b k b' k' : Nat) (w : World)
 (l0 : w.cell? ⟨b, k, none⟩ = some (.int .i64 1)) (l1 : w.cell? ⟨b, k + 1, none⟩ = some (.string (nt x))) (l2 : w.cell? ⟨b, k + 2, none⟩ = some (.string (dt x))) (l3 : w.cell? ⟨b, k + 3, none⟩ = some e0) (l4 : w.cell? ⟨b, k + 4, none⟩ = some e0) (l5 : w.cell? ⟨b, k + 5, none⟩ = some e0) (l6 : w.cell? ⟨b, k + 6, none⟩ = some (.slice none 0 0))
 (m0 : w.cell? ⟨b', k', none⟩ = some (.int .i64 1)) (m1 : w.cell? ⟨b', k' + 1, none⟩ = some (.string (nt y))) (m2 : w.cell? ⟨b', k' + 2, none⟩ = some (.string (dt y))) (m3 : w.cell? ⟨b', k' + 3, none⟩ = some e0) (m4 : w.cell? ⟨b', k' + 4, none⟩ = some e0) (m5 : w.cell? ⟨b', k' + 5, none⟩ = some e0) (m6 : w.cell? ⟨b', k' + 6, none⟩ = some (.slice none 0 0)) :
 Calls Tryz.prog 164 #[.pointer (some ⟨b, k, none⟩), .pointer (some ⟨b', k', none⟩)] w (RetI w (ordQ x y)) := by
 have hn : ordI (rankI 1) (rankI 1) = 0 := rfl
 have C : Hid (∀ w, Calls Tryz.prog 178 #[.agg #[.int .i64 1, .string (nt x), .string (dt x), e0, e0, e0, .slice none 0 0], .agg #[.int .i64 1, .string (nt y), .string (dt y), e0, e0, e0, .slice none 0 0]] w (RetI w (ordQ x y))) := fun w => cmpNumP d hd x y w hx hy
 clear hx hy
 unfold e0 at *
 go_enter Tryz.func164, Tryz.ntmps164
 go_wp2_with fail
 go_quiet ((first | (go_at_call 177; exact quiet_same (rankP _ _)) | (go_at_call 144; exact quiet_same (cmpAny _ _ _))))
 go_wp2_with fail
 have Q : Below w.heap.size w (w.drewN nq) := ⟨rfl, rfl, rfl, Nat.le_refl _, fun _ _ => rfl⟩
 replace Q := qh9 Q
 change (w.drewN nq).cell? _ = _ at l0 m0 l1 m1 l2 m2 l3 m3 l4 m4 l5 m5 l6 m6
 clear hn
 generalize w.drewN nq = w1 at l0 m0 l1 m1 l2 m2 l3 m3 l4 m4 l5 m5 l6 m6 Q ⊢
 go_still_tail 6, (by kernel_rfl)
 change wpList _ _ _ _ _ w1.drew
 have Q2 := Q.out.drew
 clear l0 m0 l1 m1 l2 m2 l3 m3 l4 m4 l5 m5 l6 m6
 generalize w1.drew = w2 at Q2 ⊢
 go_wp2_with fail
 refine (C.out w2).mono ?_
 rintro e w3 ⟨rfl, hb⟩
 have Q3 := qh9 (Q2.trans (hb.mono Q2.size))
 clear hb Q2
 go_wp2
 go_ret
 exact ⟨rfl, Q3.out⟩
theorem cmpFieldsP (d : Nat) (hd : d ≤ 1000) (a a' : Ob) (b k b' k' : Nat) (p p' : Value) (w : World) (S : Nat → Prop) (ha : a.bd d) (ha' : a'.bd d) (h : At w S a b k p) (h' : At w S a' b' k' p') :
 Calls Tryz.prog 164 #[.pointer (some ⟨b, k, none⟩), .pointer (some ⟨b', k', none⟩)] w (RetI w (ordF a a')) := by
 obtain ⟨x0, x1, x2, x3, x4, x5, e, l0, l1, l2, l3, l4, l5, l6⟩ := h.cells
 obtain ⟨y0, y1, y2, y3, y4, y5, e', m0, m1, m2, m3, m4, m5, m6⟩ := h'.cells
 rw [cellsO_f] at e e'
 simp only [List.cons.injEq, and_true] at e e'
 obtain ⟨rfl, rfl, rfl, rfl, rfl, rfl⟩ := e
 obtain ⟨rfl, rfl, rfl, rfl, rfl, rfl⟩ := e'
 by_cases hr : a.rank = a'.rank
 · cases a with
   | num q =>
    cases a' with
    | num q' =>
     obtain rfl := h.2.2.flat rfl
     obtain rfl := h'.2.2.flat rfl
     exact cmpF_num d hd q q' ha ha' b k b' k' w l0 l1 l2 l3 l4 l5 l6 m0 m1 m2 m3 m4 m5 m6
    | _ => simp [Ob.rank] at hr
   | str s =>
    cases a' with
    | str s' =>
     have h := cmpF_str b k b' k' w (BA s) (BA s') l0 m0 l5 m5
     rw [LA_BA, LA_BA] at h
     exact h
    | _ => simp [Ob.rank] at hr
   | sym s t =>
    cases a' with
    | sym s' t' =>
     have h := cmpF_sym b k b' k' w (BA s) (BA t) (BA s') (BA t') l0 m0 l3 m3 l4 m4
     rw [LA_BA, LA_BA, LA_BA, LA_BA] at h
     exact h
    | _ => simp [Ob.rank] at hr
   | cons x y =>
    cases a' with
    | cons x' y' => exact cmpF_cons b k b' k' w l0 m0
    | _ => simp [Ob.rank] at hr
 · obtain ⟨h1, h2⟩ := ordF_ne hr
   rw [← h1]
   exact cmpF_ne b k b' k' w _ _ (kindI a) (kindI a') h2 l0 m0
def CmpAt (w : World) (g : Nat) (x : Bool) (k : Nat) : Prop := w.heap[g]? = some (.cells #[.bool x, .int .i64 k, .map none] 145 (0, 0))
def Run (w wr : World) (g : Nat) (x : Bool) (lo hi : Nat) : Prop := w.grownBy wr (some g) ∧ ∃ k, CmpAt wr g x k ∧ lo ≤ k ∧ k ≤ hi
theorem CmpAt.lt {w : World} {g : Nat} {x : Bool} {k : Nat} (h : CmpAt w g x k) : g < w.heap.size := by
 unfold CmpAt at h
 rcases Nat.lt_or_ge g w.heap.size with hlt | hge
 · exact hlt
 · rw [Array.getElem?_eq_none hge] at h; cases h
theorem CmpAt.c0 {w : World} {g : Nat} {x : Bool} {k : Nat} (h : CmpAt w g x k) : w.cell? ⟨g, 0, none⟩ = some (.bool x) := by rw [cell_of_row _ _ _ _ _ _ h]; rfl
theorem CmpAt.c1 {w : World} {g : Nat} {x : Bool} {k : Nat} (h : CmpAt w g x k) : w.cell? ⟨g, 1, none⟩ = some (.int .i64 k) := by rw [cell_of_row _ _ _ _ _ _ h]; rfl
theorem CmpAt.f1 {w : World} {g : Nat} {x : Bool} {k : Nat} (h : CmpAt w g x k) : w.frozen? ⟨g, 1, none⟩ = false := by
 unfold CmpAt at h
 simp [World.frozen?, h]
theorem CmpAt.set {w : World} {g : Nat} {x : Bool} {k : Nat} (h : CmpAt w g x k) (k' : Nat) : CmpAt (w.setCell ⟨g, 1, none⟩ (.int .i64 (k' : Nat))) g x k' := by
 unfold CmpAt at h ⊢
 simp [World.setCell, Array.getElem?_modify, h]
theorem Run.start {w : World} {g : Nat} {x : Bool} {k : Nat} (h : CmpAt w g x k) : Run w w g x k k := ⟨⟨rfl, rfl, rfl, Nat.le_refl _, fun _ _ _ => rfl⟩, k, h, Nat.le_refl _, Nat.le_refl _⟩
theorem Run.below {w wr w' : World} {g : Nat} {x : Bool} {lo hi : Nat} (h : Run w wr g x lo hi) (hb : Below wr.heap.size wr w') : Run w w' g x lo hi := by
 obtain ⟨hg, k, hc, h1, h2⟩ := h
 exact ⟨⟨hb.os.trans hg.os, hb.tape.trans hg.tape, hb.output.trans hg.output, Nat.le_trans hg.size hb.size, fun i hi hn => (hb.block i (Nat.lt_of_lt_of_le hi hg.size)).trans (hg.block i hi hn)⟩, k, (hb.block g hc.lt).trans hc, h1, h2⟩
theorem Run.drewN {w wr : World} {g : Nat} {x : Bool} {lo hi : Nat} (h : Run w wr g x lo hi) (n : Nat) : Run w (wr.drewN n) g x lo hi := h.below ⟨rfl, rfl, rfl, Nat.le_refl _, fun _ _ => rfl⟩
theorem Run.drew {w wr : World} {g : Nat} {x : Bool} {lo hi : Nat} (h : Run w wr g x lo hi) : Run w wr.drew g x lo hi := h.below ⟨rfl, rfl, rfl, Nat.le_refl _, fun _ _ => rfl⟩
theorem Run.more {w wr : World} {g : Nat} {x : Bool} {lo hi hi' : Nat} (h : Run w wr g x lo hi) (hh : hi ≤ hi') : Run w wr g x lo hi' := by
 obtain ⟨hg, k, hc, h1, h2⟩ := h
 exact ⟨hg, k, hc, h1, Nat.le_trans h2 hh⟩
theorem Run.trans {w wr w' : World} {g : Nat} {x : Bool} {lo hi' k : Nat} (h : w.grownBy wr (some g)) (hk : lo ≤ k) (h' : Run wr w' g x k hi') : Run w w' g x lo hi' := by
 obtain ⟨hg, k', hc, h1, h2⟩ := h'
 refine ⟨⟨hg.os.trans h.os, hg.tape.trans h.tape, hg.output.trans h.output, Nat.le_trans h.size hg.size, fun i hi hn => (hg.block i (Nat.lt_of_lt_of_le hi h.size) hn).trans (h.block i hi hn)⟩, k', hc, by omega, h2⟩
theorem Run.set {w wr : World} {g : Nat} {x : Bool} {lo k : Nat} (h : w.grownBy wr (some g)) (hc : CmpAt wr g x k) (hlo : lo ≤ k) : Run w (wr.setCell ⟨g, 1, none⟩ (.int .i64 ((k + 1 : Nat) : Int))) g x lo (k + 1) := by
 refine ⟨⟨h.os, h.tape, h.output, by simpa [World.setCell] using h.size, fun i hi hn => ?_⟩, k + 1, hc.set (k + 1), by omega, Nat.le_refl _⟩
 exact (Below.heap_setCell wr ⟨g, 1, none⟩ _ i (fun e => hn (by rw [e]))).trans (h.block i hi hn)
theorem At.run {w wr : World} {S : Nat → Prop} {g : Nat} {x : Bool} {lo hi : Nat} {o : Ob} {b k : Nat} {p : Value} (h : At w S o b k p) (hS : In S w) (hg : ¬ S g) (r : Run w wr g x lo hi) : At wr S o b k p :=
 h.keep (fun _ h => h) fun q hq => r.1.block q (hS q hq) (fun e => hg (by injection e with e; rwa [e] at hq))

theorem owp_ne {x : Bool} {a b : Ob} (h : owp x a b ≠ 0) : ordX x a b = owp x a b := by
 unfold owp at h ⊢
 split
 · rename_i hc; rw [if_pos hc] at h; exact absurd rfl h
 · rfl
theorem owp_eq {x : Bool} {a b : Ob} (h : owp x a b = 0) : a = b ∧ a.isCons = false ∨ a.isCons = true ∧ b.isCons = true := by
 unfold owp at h
 split at h
 · rename_i hc
   right
   simpa using hc
 · rename_i hc
   have e := (ordX_zero x a b).1 h
   subst e
   left
   refine ⟨rfl, ?_⟩
   cases hh : a.isCons with
   | false => rfl
   | true => exact absurd (by rw [hh]; rfl) hc

theorem owpP (d : Nat) (hd : d ≤ 1000) (a a' : Ob) (b k b' k' : Nat) (p p' : Value) (w : World) (S : Nat → Prop) (ha : a.bd d) (ha' : a'.bd d) (h : At w S a b k p) (h' : At w S a' b' k' p') (g : Nat) (x : Bool) (hc : w.cell? ⟨g, 0, none⟩ = some (.bool x)) :
 Calls Tryz.prog 143 #[.pointer (some ⟨g, 0, none⟩), .pointer (some ⟨b, k, none⟩), .pointer (some ⟨b', k', none⟩)] w (RetI w (owp x a a')) := by
 cases x with
 | false =>
  have call := qh9 (cmpFieldsP d hd a a' b k b' k' p p' w S ha ha' h h')
  have hr : Hid (ordF a a' = owp false a a') := rfl
  clear h h' ha ha'
  go_enter Tryz.func143, Tryz.ntmps143
  go_wp2_with fail
  refine call.out.mono ?_
  rintro e w' ⟨rfl, hb⟩
  have HB := qh9 hb
  clear hb
  go_wp2
  go_ret
  exact ⟨ret_int hr.out, HB.out⟩
 | true =>
  have call := qh9 (sameP a a' b k b' k' p p' w S h h')
  have hr : Hid (owp true a a' = if a.same a' then 0 else 1) := by
   show _ = _
   unfold owp Ob.same ordX eqI
   cases a.isCons && a'.isCons <;> simp
  clear h h' ha ha'
  rw [hr.out]
  generalize a.same a' = r at call ⊢
  cases r
  · go_enter Tryz.func143, Tryz.ntmps143
    go_wp2_with fail
    refine call.out.mono ?_
    intro e w' hq
    obtain ⟨rfl, hb⟩ := hq.below
    have HB := qh9 hb
    clear hb hq
    go_wp2
    go_ret
    exact ⟨rfl, HB.out⟩
  · go_enter Tryz.func143, Tryz.ntmps143
    go_wp2_with fail
    refine call.out.mono ?_
    intro e w' hq
    obtain ⟨rfl, hb⟩ := hq.below
    have HB := qh9 hb
    clear hb hq
    go_wp2
    go_ret
    exact ⟨rfl, HB.out⟩

theorem settled0 (g : Nat) (w : World) :
 Calls Tryz.prog 145 #[.pointer (some ⟨g, 0, none⟩), .slice none 0 0, .slice none 0 0] w (QuietV w (.bool true)) := by
 go_enter Tryz.func145, Tryz.ntmps145
 go_wp2_with fail
 go_quiet (fail)
 go_wp2
 go_ret
 exact ⟨rfl, _, rfl⟩
theorem settledSame (g b o c c' : Nat) (w : World) :
 Calls Tryz.prog 145 #[.pointer (some ⟨g, 0, none⟩), .slice (some ⟨b, o, none⟩) 2 c, .slice (some ⟨b, o, none⟩) 2 c'] w (QuietV w (.bool true)) := by
 have e : (Tryz.prog.info? 33).map (fun i => decide (i.size ≠ 0)) = some true := by kernel_rfl
 obtain ⟨j, hj⟩ : ∃ j, Tryz.prog.info? 33 = some j := by
  generalize Tryz.prog.info? 33 = i at e
  cases i with
  | none => cases e
  | some j => exact ⟨j, rfl⟩
 have he : ∀ w, (binOp .eql 147 (.pointer (some ⟨b, o, none⟩)) (.pointer (some ⟨b, o, none⟩))).run Tryz.prog w = .ok (.bool true) w := fun w => run_eql_ptr_same w ⟨b, o, none⟩ Tryz.underlying147 hj
 clear e hj
 go_enter Tryz.func145, Tryz.ntmps145
 go_wp2_with fail
 go_quiet (fail)
 go_wp2
 go_ret
 exact ⟨rfl, _, rfl⟩
theorem settledOther (g b o c b' o' c' : Nat) (w0 w : World) (x : Bool) (lo hi : Nat) (he : ∀ n, (binOp .eql 147 (.pointer (some ⟨b, o, none⟩)) (.pointer (some ⟨b', o', none⟩))).run Tryz.prog (w.drewN n) = .ok (.bool false) (w.drewN n)) (hr : Run w0 w g x lo hi) (hh : hi + 1 ≤ 3000) :
 Calls Tryz.prog 145 #[.pointer (some ⟨g, 0, none⟩), .slice (some ⟨b, o, none⟩) 2 c, .slice (some ⟨b', o', none⟩) 2 c'] w (fun e w' => e = .returned (.bool false) ∧ Run w0 w' g x lo (hi + 1)) := by
 obtain ⟨hg, k, hc, h1, h2⟩ := hr
 have c1 := hc.c1
 have f1 := hc.f1
 have hk : (k : Int) + 1 ≤ 3000 := by omega
 have hk0 : (k : Int) ≤ 3000 := by omega
 have R : Hid (∀ n, Run w0 ((w.drewN n).setCell ⟨g, 1, none⟩ (.int .i64 ((k + 1 : Nat) : Int))) g x lo (hi + 1)) := fun n =>
  (Run.set (wr := w.drewN n) (Run.drewN (show Run w0 w g x lo k from ⟨hg, k, hc, h1, Nat.le_refl _⟩) n).1 hc h1).more (by omega)
 clear hc hg
 go_enter Tryz.func145, Tryz.ntmps145
 go_wp2_with fail
 go_quiet (fail)
 go_wp2
 go_ret
 exact ⟨rfl, R.out _⟩
theorem ptr_ne {w : World} {b k b' k' : Nat} (h : Plain w b) (h' : Plain w b') (hne : ¬ (b = b' ∧ k = k')) :
 (binOp .eql 147 (.pointer (some ⟨b, k, none⟩)) (.pointer (some ⟨b', k', none⟩))).run Tryz.prog w = .ok (.bool false) w := by
 obtain ⟨_, _, h1⟩ := h
 obtain ⟨_, _, h2⟩ := h'
 have e : (Tryz.prog.info? 33).map (fun i => decide (i.size ≠ 0)) = some true := by kernel_rfl
 obtain ⟨j, hj, hs⟩ : ∃ j, Tryz.prog.info? 33 = some j ∧ j.size ≠ 0 := by
  generalize Tryz.prog.info? 33 = i at e
  cases i with
  | none => cases e
  | some j => exact ⟨j, rfl, by simpa using e⟩
 clear e
 exact run_eql_ptr_other w Tryz.underlying147 hj hs (fun e => by
  injection e with e1 e2
  exact hne ⟨e1, e2⟩) h1 h2
def RetC (w : World) (g : Nat) (x : Bool) (k m : Nat) (r : Int) (e : Ending) (w' : World) : Prop := e = .returned (.int .i64 r) ∧ Run w w' g x k (k + m)
def OrdAt (w : World) (S : Nat → Prop) (x : Bool) (d : Nat) (y y' : Ob) (b o b' o' : Nat) (r : Int) : Prop :=
 (∃ p, At w S y b o p) ∧ (∃ p, At w S y' b' o' p) ∧ y.bd d ∧ y'.bd d ∧ ordX x y y' = r

theorem orderO (d : Nat) (hd : d ≤ 1000) : ∀ (N : Nat) (a a' : Ob) (b o b' o' : Nat) (p p' : Value) (w : World) (S : Nat → Prop) (g : Nat) (x : Bool) (k : Nat), a.nodes ≤ N → a.bd d → a'.bd d → At w S a b o p → At w S a' b' o' p' → In S w → ¬ S g → CmpAt w g x k → k + a.nodes ≤ 3000 →
 Calls Tryz.prog 117 #[.pointer (some ⟨g, 0, none⟩), .pointer (some ⟨b, o, none⟩), .pointer (some ⟨b', o', none⟩)] w (RetC w g x k a.nodes (ordX x a a')) := by
 intro N
 induction N with
 | zero => intro a a' b o b' o' p p' w S g x k hN; have := a.nodes_pos; omega
 | succ N IH =>
  intro a a' b o b' o' p p' w S g x k hN ha ha' hA hA' hS hg hc hk
  have pos := a.nodes_pos
  have IH' := qh9 IH
  have HS := qh9 hS
  have HG := qh9 hg
  clear IH hS hg
  obtain ⟨r, hr⟩ : ∃ r, ordX x a a' = r := ⟨_, rfl⟩
  obtain ⟨m, hm⟩ : ∃ m, a.nodes = m := ⟨_, rfl⟩
  rw [hr]
  rw [hm] at hN hk pos ⊢
  have h0 : Hid (OrdAt w S x d a a' b o b' o' r) := ⟨⟨p, hA⟩, ⟨p', hA'⟩, ha, ha', hr⟩
  have r0 : Hid (Run w w g x k k) := Run.start hc
  have hm' : a.nodes ≤ m := by omega
  clear hA hA' ha ha' hr hm hc
  go_enter Tryz.func117, Tryz.ntmps117
  go_wp2_with fail
  go_loopg [1, 2] m (fun n u v wr => ∃ (y y' : Ob) (b o b' o' hi : Nat), u = .pointer (some ⟨b, o, none⟩) ∧ v = .pointer (some ⟨b', o', none⟩) ∧ y.nodes ≤ n ∧ n ≤ m ∧ hi + y.nodes ≤ k + m ∧ Hid (OrdAt w S x d y y' b o b' o' r) ∧ Hid (Run w wr g x k hi))
  case atStart => exact ⟨a, a', b, o, b', o', k, rfl, rfl, hm', Nat.le_refl _, by omega, h0, r0⟩
  case round =>
   clear h0 r0
   obtain ⟨y, y', b, o, b', o', hi, rfl, rfl, hyn, hnm, hhi, hE, hR⟩ := hrel
   obtain ⟨wo, rfl⟩ : ∃ wo : World, wo = wr := ⟨_, rfl⟩
   obtain ⟨⟨p, hA⟩, ⟨p', hA'⟩, hy, hy', hr⟩ := hE.out
   clear hE
   have posy := y.nodes_pos
   obtain ⟨_, k1, hck, _, _⟩ := hR.out
   have C1 := qh9 (owpP d hd y y' b o b' o' p p' wo S hy hy' (hA.run HS.out HG.out hR.out) (hA'.run HS.out HG.out hR.out) g x hck.c0)
   have L6 : Hid (∀ wd hi, Run w wd g x k hi → wd.cell? ⟨b, o + 6, none⟩ = some p ∧ wd.cell? ⟨b', o' + 6, none⟩ = some p') := fun wd hi hr => ⟨(hA.run HS.out HG.out hr).last, (hA'.run HS.out HG.out hr).last⟩
   clear hck
   by_cases h0 : owp x y y' = 0
   · rcases owp_eq h0 with ⟨heq, hf⟩ | ⟨hcy, hcy'⟩
     · obtain rfl := hA.2.2.flat hf
       obtain rfl := hA'.2.2.flat (by rw [← heq]; exact hf)
       have hr0 : Hid (r = 0) := by show r = 0; rw [← hr]; exact (ordX_zero x y y').2 heq
       have hn : (owp x y y' != 0) = false := by rw [h0]; rfl
       have hn2 : ordI (0 : Int) 0 = 0 := rfl
       have hfin : k + m ≥ hi := by omega
       clear hA hA' hr heq hf h0 hy hy'
       go_wp2_with fail
       refine C1.out.mono ?_
       rintro e w1 ⟨rfl, hb1⟩
       have R1 := qh9 (hR.out.below hb1)
       obtain ⟨l6, m6⟩ := L6.out w1 hi R1.out
       clear hb1 hR
       go_wp2_with fail
       go_quiet ((go_at_call 144; exact quiet_same (cmpAny _ _ _)))
       have R2 := qh9 (R1.out.drewN nq)
       change (w1.drewN nq).cell? _ = _ at l6 m6
       generalize w1.drewN nq = w2 at l6 m6 R2 ⊢
       clear R1
       go_wp2_with fail
       go_still_tail 9, (by kernel_rfl)
       change wpList _ _ _ _ _ w2.drew
       have R3 := qh9 R2.out.drew
       clear l6 m6 R2
       generalize w2.drew = w3 at R3 ⊢
       go_wp2_with fail
       refine (settled0 g w3).mono ?_
       intro e w4 hq
       obtain ⟨rfl, hb⟩ := hq.below
       have R4 := qh9 (R3.out.below hb)
       clear hq hb R3
       go_wp2
       go_ret
       exact ⟨ret_int hr0.out.symm, R4.out.more hfin⟩
     · cases y with
       | cons c e =>
        cases y' with
        | cons c' e' =>
         obtain ⟨bb, oo, cc, pc, pe, rfl, hcc, hC, hE⟩ := hA.2.2.parts
         obtain ⟨bb', oo', cc', pc', pe', rfl, hcc', hC', hE'⟩ := hA'.2.2.parts
         have hnn : (Ob.cons c e).nodes = 1 + c.nodes + e.nodes := rfl
         have posc := c.nodes_pos
         have pose := e.nodes_pos
         rw [ordX_cons] at hr
         have hn : (owp x (Ob.cons c e) (Ob.cons c' e') != 0) = false := by rw [h0]; rfl
         have hn2 : ordI (2 : Int) 2 = 0 := rfl
         have hfin : k + m ≥ hi := by omega
         have C3 : Hid (∀ wd, Run w wd g x k (hi + 1) → Calls Tryz.prog 117 #[.pointer (some ⟨g, 0, none⟩), .pointer (some ⟨bb, oo, none⟩), .pointer (some ⟨bb', oo', none⟩)] wd (fun e w' => e = .returned (.int .i64 (ordX x c c')) ∧ Run w w' g x k (hi + 1 + c.nodes))) := by
          intro wd hrun
          obtain ⟨hgr, k', hck, h1, h2⟩ := hrun
          have hrun : Run w wd g x k (hi + 1) := ⟨hgr, k', hck, h1, h2⟩
          refine (IH'.out c c' bb oo bb' oo' pc pc' wd S g x k' (by omega) hy.1 hy'.1 (hC.run HS.out HG.out hrun) (hC'.run HS.out HG.out hrun) (HS.out.later hgr.size) HG.out hck (by omega)).mono ?_
          rintro e w' ⟨he, hrun'⟩
          exact ⟨he, (Run.trans hgr h1 hrun').more (by omega)⟩
         have hlim : hi + 1 ≤ 3000 := by omega
         have hce : hi + 1 + c.nodes + e.nodes ≤ k + m := by omega
         have heg : e.nodes < gk := by omega
         have hem : e.nodes ≤ m := by omega
         have HE : Hid ((∃ p, At w S e bb (oo + 7) p) ∧ (∃ p, At w S e' bb' (oo' + 7) p) ∧ e.bd d ∧ e'.bd d) := ⟨⟨_, hE⟩, ⟨_, hE'⟩, hy.2, hy'.2⟩
         by_cases hsame : bb = bb' ∧ oo = oo'
         · obtain ⟨rfl, rfl⟩ := hsame
           have e1 := hC.inj hC'
           have e2 := hE.inj hE'
           have hr0 : Hid (r = 0) := by
            show r = 0
            rw [← hr, (ordX_zero x c c').2 e1, (ordX_zero x e e').2 e2]; rfl
           clear hA hA' hr h0 hy hy' hC hC' hE hE' hnn e1 e2 hcy hcy' C3 HE
           go_wp2_with fail
           refine C1.out.mono ?_
           rintro e w1 ⟨rfl, hb1⟩
           have R1 := qh9 (hR.out.below hb1)
           obtain ⟨l6, m6⟩ := L6.out w1 hi R1.out
           clear hb1 hR
           go_wp2_with fail
           go_quiet ((go_at_call 144; exact quiet_same (cmpAny _ _ _)))
           have R2 := qh9 (R1.out.drewN nq)
           change (w1.drewN nq).cell? _ = _ at l6 m6
           generalize w1.drewN nq = w2 at l6 m6 R2 ⊢
           clear R1
           go_wp2_with fail
           go_still_tail 9, (by kernel_rfl)
           change wpList _ _ _ _ _ w2.drew
           have R3 := qh9 R2.out.drew
           clear l6 m6 R2
           generalize w2.drew = w3 at R3 ⊢
           go_wp2_with fail
           refine (settledSame g bb oo cc cc' w3).mono ?_
           intro e w4 hq
           obtain ⟨rfl, hb⟩ := hq.below
           have R4 := qh9 (R3.out.below hb)
           clear hq hb R3
           go_wp2
           go_ret
           exact ⟨ret_int hr0.out.symm, R4.out.more hfin⟩
         · have C2 : Hid (∀ wd, Run w wd g x k hi → Calls Tryz.prog 145 #[.pointer (some ⟨g, 0, none⟩), .slice (some ⟨bb, oo, none⟩) 2 cc, .slice (some ⟨bb', oo', none⟩) 2 cc'] wd (fun e w' => e = .returned (.bool false) ∧ Run w w' g x k (hi + 1))) := by
            intro wd hrun
            exact settledOther g bb oo cc bb' oo' cc' w wd x k hi (fun n => ptr_ne (hC.run HS.out HG.out (hrun.drewN n)).1.2 (hC'.run HS.out HG.out (hrun.drewN n)).1.2 hsame) hrun hlim
           have HR := qh9 hr
           have hfin2 : hi + 1 + c.nodes ≤ k + m := by omega
           clear hA hA' hr h0 hy hy' hC hC' hE hE' hnn hcy hcy' hsame
           go_wp2_with fail
           refine C1.out.mono ?_
           rintro e' w1 ⟨rfl, hb1⟩
           have R1 := qh9 (hR.out.below hb1)
           obtain ⟨l6, m6⟩ := L6.out w1 hi R1.out
           clear hb1 hR
           go_wp2_with fail
           go_quiet ((go_at_call 144; exact quiet_same (cmpAny _ _ _)))
           have R2 := qh9 (R1.out.drewN nq)
           change (w1.drewN nq).cell? _ = _ at l6 m6
           generalize w1.drewN nq = w2 at l6 m6 R2 ⊢
           clear R1
           go_wp2_with fail
           go_still_tail 9, (by kernel_rfl)
           change wpList _ _ _ _ _ w2.drew
           have R3 := qh9 R2.out.drew
           clear l6 m6 R2
           generalize w2.drew = w3 at R3 ⊢
           go_wp2_with fail
           refine (C2.out w3 R3.out).mono ?_
           rintro e' w4 ⟨rfl, hr4⟩
           obtain ⟨l6, m6⟩ := L6.out w4 _ hr4
           have R4 : Hid (Run w w4 g x k (hi + 1 + 0 * c.nodes)) := hr4.more (by omega)
           clear hr4 R3 C2 C1
           go_wp2_with fail
           clear l6 m6
           go_loopw [50] (fun v wr => ∃ i : Nat, i ≤ 1 ∧ v = .int .i64 i ∧ Hid (Run w wr g x k (hi + 1 + i * c.nodes)) ∧ Hid (0 < i → ordX x c c' = 0)) (fun v _ => 1 - (intOf v).toNat)
           case atStart => exact ⟨0, by omega, rfl, R4, fun h => by omega⟩
           case round =>
            clear R4
            obtain ⟨i, hi1, rfl, R5, HO⟩ := hrel
            obtain ⟨w5, rfl⟩ : ∃ w5 : World, w5 = wr := ⟨_, rfl⟩
            obtain ⟨l6, m6⟩ := L6.out w5 _ R5.out
            by_cases hi0 : i = 0
            · subst hi0
              have R6 : Hid (Run w w5 g x k (hi + 1)) := R5.out.more (by omega)
              clear R5 hi1 HO
              go_wp2_with fail
              go_still_tail 13, (by kernel_rfl)
              change wpList _ _ _ _ _ w5.drew
              have R7 := qh9 R6.out.drew
              clear l6 m6 R6
              generalize w5.drew = w6 at R7 ⊢
              go_wp2_with fail
              refine (C3.out w6 R7.out).mono ?_
              rintro e' w7 ⟨rfl, hr7⟩
              have R8 := qh9 hr7
              clear hr7 R7
              by_cases hz : ordX x c c' = 0
              · have hzn : (ordX x c c' != 0) = false := by rw [hz]; rfl
                have HZ := qh9 hz
                clear hz
                go_wp2
                go_roundw
                case rel => exact ⟨1, Nat.le_refl _, rfl, R8.out.more (by omega), fun _ => HZ.out⟩
                case measure => simp [intOf]
              · have hzn : (ordX x c c' != 0) = true := by rw [bne_iff_ne]; exact hz
                have HZ : Hid (r = ordX x c c') := by show _ = _; rw [← HR.out]; unfold next; rw [if_neg hz]
                clear hz
                go_wp2
                go_ret
                exact ⟨ret_int HZ.out.symm, R8.out.more hfin2⟩
            · have hi2 : i = 1 := by omega
              subst hi2
              have R6 : Hid (Run w w5 g x k (hi + 1 + c.nodes)) := R5.out.more (by omega)
              have HZ : Hid (ordX x e e' = r) := by
               show _ = _
               rw [← HR.out]
               unfold next
               rw [if_pos (HO.out (by omega))]
              clear R5 hi1 HO hi0
              go_wp2_with fail
              go_quiet (fail)
              have R7 := qh9 (R6.out.drewN nq)
              clear l6 m6 R6
              generalize w5.drewN nq = w6 at R7 ⊢
              go_wp2
              go_roundg e.nodes
              case measure => exact heg
              case rel => exact ⟨e, e', bb, oo + 7, bb', oo' + 7, hi + 1 + c.nodes, rfl, rfl, Nat.le_refl _, hem, hce, ⟨HE.out.1, HE.out.2.1, HE.out.2.2.1, HE.out.2.2.2, HZ.out⟩, R7⟩
        | _ => simp [Ob.isCons] at hcy'
       | _ => simp [Ob.isCons] at hcy
   · have hr1 := qh9 ((owp_ne h0).symm.trans hr)
     have hn : (owp x y y' != 0) = true := by rw [bne_iff_ne]; exact h0
     have hfin : k + m ≥ hi := by omega
     clear hA hA' hr h0 hy hy' L6
     go_wp2_with fail
     refine C1.out.mono ?_
     rintro e w1 ⟨rfl, hb1⟩
     have R1 := qh9 (hR.out.below hb1)
     clear hb1 hR
     go_wp2
     go_ret
     exact ⟨ret_int hr1.out, R1.out.more hfin⟩
theorem three (a a' : Ob) (p p' : Value) (w : World) (S : Nat → Prop) (hS : In S w) (ha : Pair w S a p) (ha' : Pair w S a' p') (x : Bool) :
 ∃ W, W = ((w.alloc (.cells (cellsO a p).toArray 33)).alloc (.cells (cellsO a' p').toArray 33)).alloc (.cells #[.bool x, .int .i64 0, .map none] 145) ∧
  Below w.heap.size w W ∧ W.heap.size = w.heap.size + 3 ∧ At W (fun b => S b ∨ b = w.heap.size ∨ b = w.heap.size + 1) a w.heap.size 0 p ∧ At W (fun b => S b ∨ b = w.heap.size ∨ b = w.heap.size + 1) a' (w.heap.size + 1) 0 p' ∧ CmpAt W (w.heap.size + 2) x 0 := by
 refine ⟨_, rfl, ?_⟩
 have hb : Below w.heap.size w (((w.alloc (.cells (cellsO a p).toArray 33)).alloc (.cells (cellsO a' p').toArray 33)).alloc (.cells #[.bool x, .int .i64 0, .map none] 145)) :=
  Below.alloc (Below.alloc (Below.alloc (Below.refl _ _) (Nat.le_refl _) _) (by simp) _) (by simp; omega) _
 have h0 : (((w.alloc (.cells (cellsO a p).toArray 33)).alloc (.cells (cellsO a' p').toArray 33)).alloc (.cells #[.bool x, .int .i64 0, .map none] 145)).heap[w.heap.size]? = some (.cells (cellsO a p).toArray 33 (0, 0)) := by
  rw [Below.heap_alloc _ _ _ (by simp; omega)]; exact heap_alloc2_old w _ _
 have h1 : (((w.alloc (.cells (cellsO a p).toArray 33)).alloc (.cells (cellsO a' p').toArray 33)).alloc (.cells #[.bool x, .int .i64 0, .map none] 145)).heap[w.heap.size + 1]? = some (.cells (cellsO a' p').toArray 33 (0, 0)) := by
  rw [Below.heap_alloc _ _ _ (by simp)]; exact heap_alloc2_new w _ _
 refine ⟨hb, by simp, ⟨⟨.inr (.inl rfl), _, _, h0⟩, fun j u hj => ?_, (ha.below hS hb).more fun _ h => .inl h⟩, ⟨⟨.inr (.inr rfl), _, _, h1⟩, fun j u hj => ?_, (ha'.below hS hb).more fun _ h => .inl h⟩, heap_new_at (by simp)⟩
 · rw [Nat.zero_add, cell_of_row _ _ _ _ _ _ h0, ← hj]; simp
 · rw [Nat.zero_add, cell_of_row _ _ _ _ _ _ h1, ← hj]; simp
theorem orderTop (d : Nat) (hd : d ≤ 1000) (a a' : Ob) (p p' : Value) (w : World) (S : Nat → Prop) (hS : In S w) (ha : Pair w S a p) (ha' : Pair w S a' p') (hb : a.bd d) (hb' : a'.bd d) (hn : a.nodes ≤ 3000) (x : Bool) :
 Calls Tryz.prog 117 #[.pointer (some ⟨w.heap.size + 1 + 1, 0, none⟩), .pointer (some ⟨w.heap.size, 0, none⟩), .pointer (some ⟨w.heap.size + 1, 0, none⟩)] (((w.alloc (.cells (cellsO a p).toArray 33)).alloc (.cells (cellsO a' p').toArray 33)).alloc (.cells #[.bool x, .int .i64 0, .map none] 145))
  (fun e w' => e = .returned (.int .i64 (ordX x a a')) ∧ Below w.heap.size w w') := by
 obtain ⟨W, e, h1, h2, h3, h4, h5⟩ := three a a' p p' w S hS ha ha' x
 rw [← e]
 refine (orderO d hd a.nodes a a' w.heap.size 0 (w.heap.size + 1) 0 p p' W _ (w.heap.size + 2) x 0 (Nat.le_refl _) hb hb' h3 h4 (fun b hb => ?_) (fun h => ?_) h5 (by omega)).mono ?_
 · rcases hb with hb | rfl | rfl
   · have := hS b hb; omega
   · omega
   · omega
 · rcases h with h | h | h
   · have := hS _ h; omega
   · omega
   · omega
 · rintro e w' ⟨he, hr⟩
   exact ⟨he, hr.1.os.trans h1.os, hr.1.tape.trans h1.tape, hr.1.output.trans h1.output, Nat.le_trans h1.size hr.1.size, fun b hlt => (hr.1.block b (by omega) (fun e => by injection e with e; omega)).trans (h1.block b hlt)⟩
theorem equalP (d : Nat) (hd : d ≤ 1000) (a a' : Ob) (p p' : Value) (w : World) (S : Nat → Prop) (hS : In S w) (ha : Pair w S a p) (ha' : Pair w S a' p') (hb : a.bd d) (hb' : a'.bd d) (hn : a.nodes ≤ 3000) :
 Calls Tryz.prog 91 #[vO a p, vO a' p'] w (RetB w (decide (a = a'))) := by
 have call := qh9 (orderTop d hd a a' p p' w S hS ha ha' hb hb' hn true)
 obtain ⟨x0, x1, x2, x3, x4, x5, e⟩ := cells7 a p
 obtain ⟨y0, y1, y2, y3, y4, y5, e'⟩ := cells7 a' p'
 rw [e, e'] at call
 unfold vO
 rw [e, e']
 have hr : Hid ((eqI a a' == 0) = decide (a = a')) := by
  show _ = _
  unfold eqI
  by_cases h : a = a' <;> simp [h]
 have hx : Hid (ordX true a a' = eqI a a') := rfl
 rw [hx.out] at call
 rw [← hr.out]
 generalize eqI a a' = q at call ⊢
 clear hr hx e e' ha ha' hb hb' hS hn
 go_enter Tryz.func91, Tryz.ntmps91
 go_wp2_with fail
 refine call.out.mono ?_
 rintro e w' ⟨rfl, hb⟩
 have HB := qh9 hb
 clear hb call
 go_wp2
 go_ret
 exact ⟨rfl, HB.out⟩
def vQ (q : Rat) : Value := .agg #[.int .i64 1, .string (nt q), .string (dt q), .string ⟨#[]⟩, .string ⟨#[]⟩, .string ⟨#[]⟩, .slice none 0 0]
def RetN (w : World) (q : Rat) (e : Ending) (w' : World) : Prop := e = .returned (vQ q) ∧ Below w.heap.size w w'
theorem RetO.num {w w' : World} {S : Nat → Prop} {q : Rat} {e : Ending} (h : RetO w S (.num q) e w') : RetN w q e w' := by
 obtain ⟨p, rfl, hp, hb⟩ := h
 have e : p = .slice none 0 0 := hp
 subst e
 exact ⟨rfl, hb⟩
theorem ratRN (s t : ByteArray) (w : World) (hs : s.size ≤ 300000000) (ht : t.size ≤ 300000000) : Calls Tryz.prog 60 #[.string s, .string t] w (RetN w (quo (LA s) (LA t))) :=
 (ratO s t w (fun _ => False) (fun _ h => h.elim) hs ht).mono fun _ _ h => h.num
theorem i64_small {n : Int} (h : -1000000 ≤ n ∧ n ≤ 1000000) : Hid (I64 n) := by show I64 n; unfold I64; omega
theorem setRow7 {w : World} {g : Nat} {old : Array Value} {t : TypeId} (h : w.heap[g]? = some (.cells old t (0, 0))) (hs : old.size = 7) (a0 a1 a2 a3 a4 a5 a6 : Value) :
 ((((((w.setCell ⟨g, 0, none⟩ a0).setCell ⟨g, 1, none⟩ a1).setCell ⟨g, 2, none⟩ a2).setCell ⟨g, 3, none⟩ a3).setCell ⟨g, 4, none⟩ a4).setCell ⟨g, 5, none⟩ a5).setCell ⟨g, 6, none⟩ a6 = w.setRow g #[a0, a1, a2, a3, a4, a5, a6] := by
 obtain ⟨old⟩ := old
 match old, hs with
 | [o0, o1, o2, o3, o4, o5, o6], _ =>
  rw [setCell_eq_setRow _ g 0 _ t _ a0 h]
  have h1 := setRow_heap w g _ (#[o0, o1, o2, o3, o4, o5, o6].setIfInBounds 0 a0) _ _ h
  rw [setCell_eq_setRow _ g 1 _ t _ a1 h1, setRow_setRow]
  have h2 := setRow_heap w g _ ((#[o0, o1, o2, o3, o4, o5, o6].setIfInBounds 0 a0).setIfInBounds 1 a1) _ _ h
  rw [setCell_eq_setRow _ g 2 _ t _ a2 h2, setRow_setRow]
  have h3 := setRow_heap w g _ (((#[o0, o1, o2, o3, o4, o5, o6].setIfInBounds 0 a0).setIfInBounds 1 a1).setIfInBounds 2 a2) _ _ h
  rw [setCell_eq_setRow _ g 3 _ t _ a3 h3, setRow_setRow]
  have h4 := setRow_heap w g _ ((((#[o0, o1, o2, o3, o4, o5, o6].setIfInBounds 0 a0).setIfInBounds 1 a1).setIfInBounds 2 a2).setIfInBounds 3 a3) _ _ h
  rw [setCell_eq_setRow _ g 4 _ t _ a4 h4, setRow_setRow]
  have h5 := setRow_heap w g _ (((((#[o0, o1, o2, o3, o4, o5, o6].setIfInBounds 0 a0).setIfInBounds 1 a1).setIfInBounds 2 a2).setIfInBounds 3 a3).setIfInBounds 4 a4) _ _ h
  rw [setCell_eq_setRow _ g 5 _ t _ a5 h5, setRow_setRow]
  have h6 := setRow_heap w g _ ((((((#[o0, o1, o2, o3, o4, o5, o6].setIfInBounds 0 a0).setIfInBounds 1 a1).setIfInBounds 2 a2).setIfInBounds 3 a3).setIfInBounds 4 a4).setIfInBounds 5 a5) _ _ h
  rw [setCell_eq_setRow _ g 6 _ t _ a6 h6, setRow_setRow]
  rfl
theorem row7 {w : World} {g : Nat} {t : TypeId} {a0 a1 a2 a3 a4 a5 a6 : Value} (h : w.heap[g]? = some (.cells #[a0, a1, a2, a3, a4, a5, a6] t (0, 0))) :
 (w.cell? ⟨g, 0, none⟩ = some a0 ∧ w.cell? ⟨g, 1, none⟩ = some a1 ∧ w.cell? ⟨g, 2, none⟩ = some a2 ∧ w.cell? ⟨g, 3, none⟩ = some a3 ∧ w.cell? ⟨g, 4, none⟩ = some a4 ∧ w.cell? ⟨g, 5, none⟩ = some a5 ∧ w.cell? ⟨g, 6, none⟩ = some a6) ∧
   (∀ j, w.frozen? ⟨g, j, none⟩ = false) := by
 refine ⟨⟨?_, ?_, ?_, ?_, ?_, ?_, ?_⟩, fun j => by simp [World.frozen?, h]⟩
 all_goals (rw [cell_of_row _ _ _ _ _ _ h]; rfl)
abbrev row (a0 a1 a2 a3 a4 a5 a6 : Value) : Array Value := #[a0, a1, a2, a3, a4, a5, a6]


theorem isLetterP (c : Int) (h1 : 97 ≤ c) (h2 : c ≤ 122) (w : World) : Calls Tryz.prog 186 #[.int .u8 c] w fun e w' => e = .returned (.bool true) ∧ w = w' := by
 go_enter Tryz.func186, Tryz.ntmps186
 go_wp2
 go_ret
 exact ⟨rfl, rfl⟩
theorem isNameP (s : ByteArray) (h1 : 1 ≤ s.size) (h2 : s.size ≤ 40) (w : World) : Calls Tryz.prog 172 #[.string s] w fun e w' => e = .returned (.bool true) ∧ w = w' := by
 have h3 : (1 : Int) ≤ (s.size : Int) := by omega
 have h4 : (s.size : Int) ≤ 40 := by omega
 go_enter Tryz.func172, Tryz.ntmps172
 go_wp2
 go_ret
 exact ⟨rfl, rfl⟩
theorem isPackageP (w : World) : Calls Tryz.prog 171 #[.string (BA lispB)] w fun e w' => e = .returned (.bool true) ∧ w = w' := by
 show Calls _ _ #[.string ⟨#[108, 105, 115, 112]⟩] _ _
 go_enter Tryz.func171, Tryz.ntmps171
 go_wp2_with fail
 refine (isNameP ⟨#[108, 105, 115, 112]⟩ (by decide) (by decide) _).mono ?_
 rintro e w' ⟨rfl, rfl⟩
 go_wp2_with fail
 refine (isLetterP 108 (by decide) (by decide) _).mono ?_
 rintro e w' ⟨rfl, rfl⟩
 go_wp2_with fail
 go_loop [15] (fun v => ∃ i : Nat, i ≤ 4 ∧ v = .int .i64 i) (fun v => 4 - (intOf v).toNat)
 case atStart => exact ⟨0, by omega, rfl⟩
 case round =>
  obtain ⟨i, hi, rfl⟩ := hrel
  have h5 : i = 0 ∨ i = 1 ∨ i = 2 ∨ i = 3 ∨ i = 4 := by omega
  rcases h5 with rfl | rfl | rfl | rfl | rfl
  · go_wp2_with fail
    refine (isLetterP 108 (by decide) (by decide) _).mono ?_
    rintro e w' ⟨rfl, rfl⟩
    go_wp2
    go_round
    case rel => exact ⟨1, by omega, rfl⟩
    case measure => simp [intOf]
  · go_wp2_with fail
    refine (isLetterP 105 (by decide) (by decide) _).mono ?_
    rintro e w' ⟨rfl, rfl⟩
    go_wp2
    go_round
    case rel => exact ⟨2, by omega, rfl⟩
    case measure => simp [intOf]
  · go_wp2_with fail
    refine (isLetterP 115 (by decide) (by decide) _).mono ?_
    rintro e w' ⟨rfl, rfl⟩
    go_wp2
    go_round
    case rel => exact ⟨3, by omega, rfl⟩
    case measure => simp [intOf]
  · go_wp2_with fail
    refine (isLetterP 112 (by decide) (by decide) _).mono ?_
    rintro e w' ⟨rfl, rfl⟩
    go_wp2
    go_round
    case rel => exact ⟨4, by omega, rfl⟩
    case measure => simp [intOf]
  · go_wp2
    go_ret
    exact ⟨rfl, rfl⟩
theorem isPackageU (w : World) : Calls Tryz.prog 171 #[.string (BA userB)] w fun e w' => e = .returned (.bool true) ∧ w = w' := by
 show Calls _ _ #[.string ⟨#[117, 115, 101, 114]⟩] _ _
 go_enter Tryz.func171, Tryz.ntmps171
 go_wp2_with fail
 refine (isNameP ⟨#[117, 115, 101, 114]⟩ (by decide) (by decide) _).mono ?_
 rintro e w' ⟨rfl, rfl⟩
 go_wp2_with fail
 refine (isLetterP 117 (by decide) (by decide) _).mono ?_
 rintro e w' ⟨rfl, rfl⟩
 go_wp2_with fail
 go_loop [15] (fun v => ∃ i : Nat, i ≤ 4 ∧ v = .int .i64 i) (fun v => 4 - (intOf v).toNat)
 case atStart => exact ⟨0, by omega, rfl⟩
 case round =>
  obtain ⟨i, hi, rfl⟩ := hrel
  have h5 : i = 0 ∨ i = 1 ∨ i = 2 ∨ i = 3 ∨ i = 4 := by omega
  rcases h5 with rfl | rfl | rfl | rfl | rfl
  · go_wp2_with fail
    refine (isLetterP 117 (by decide) (by decide) _).mono ?_
    rintro e w' ⟨rfl, rfl⟩
    go_wp2
    go_round
    case rel => exact ⟨1, by omega, rfl⟩
    case measure => simp [intOf]
  · go_wp2_with fail
    refine (isLetterP 115 (by decide) (by decide) _).mono ?_
    rintro e w' ⟨rfl, rfl⟩
    go_wp2
    go_round
    case rel => exact ⟨2, by omega, rfl⟩
    case measure => simp [intOf]
  · go_wp2_with fail
    refine (isLetterP 101 (by decide) (by decide) _).mono ?_
    rintro e w' ⟨rfl, rfl⟩
    go_wp2
    go_round
    case rel => exact ⟨3, by omega, rfl⟩
    case measure => simp [intOf]
  · go_wp2_with fail
    refine (isLetterP 114 (by decide) (by decide) _).mono ?_
    rintro e w' ⟨rfl, rfl⟩
    go_wp2
    go_round
    case rel => exact ⟨4, by omega, rfl⟩
    case measure => simp [intOf]
  · go_wp2
    go_ret
    exact ⟨rfl, rfl⟩
theorem isShortP (x : Int) (h : x.natAbs < 10 ^ 90) (w : World) : Calls Tryz.prog 183 #[.string (BA (text x))] w fun e w' => e = .returned (.bool true) ∧ w = w' := by
 have hl := text_length (x := x) (k := 90) h
 have hs : (BA (text x)).size ≤ 92 := by rw [BA_size]; exact hl
 have hv : valid (LA (BA (text x))) = true := by rw [LA_BA]; exact valid_text x
 have hd : ((body (LA (BA (text x)))).length : Int) ≤ 100 := by
  unfold body
  rw [hv, LA_BA]
  have := strip_length (text x)
  simp only [if_true]
  omega
 have V : Hid (∀ w, Calls Tryz.prog 195 #[.string (BA (text x))] w fun e w' => e = .returned (.bool true) ∧ w = w') := fun w => by
  have := valid_any (BA (text x)) w (by unfold maxLen; omega)
  rw [hv] at this
  exact this
 have D : Hid (∀ w, Calls Tryz.prog 196 #[.string (BA (text x))] w fun e w' => e = .returned (.int .i64 ((body (LA (BA (text x)))).length : Nat)) ∧ w = w') := fun w => digits_any _ w (by omega)
 clear h hl hv
 generalize BA (text x) = s at hs hd V D ⊢
 generalize (body (LA s)).length = n at hd D
 go_enter Tryz.func183, Tryz.ntmps183
 go_wp2_with fail
 refine (V.out _).mono ?_
 rintro e w' ⟨rfl, rfl⟩
 go_wp2_with fail
 refine (D.out _).mono ?_
 rintro e w' ⟨rfl, rfl⟩
 go_wp2
 go_ret
 exact ⟨rfl, rfl⟩
theorem isFractionP (x : Int) (h : x.natAbs < 10 ^ 90) (w : World) : Calls Tryz.prog 170 #[.string (BA (text x)), .string ⟨#[49]⟩] w fun e w' => e = .returned (.bool true) ∧ w = w' := by
 have C1 := fun w => isShortP x h w
 have C2 : ∀ w, Calls Tryz.prog 183 #[.string ⟨#[49]⟩] w fun e w' => e = .returned (.bool true) ∧ w = w' := fun w => isShortP 1 (by decide) w
 replace C1 := qh9 C1
 replace C2 := qh9 C2
 clear h
 generalize BA (text x) = s at C1 ⊢
 go_enter Tryz.func170, Tryz.ntmps170
 go_wp2_with fail
 refine (C1.out _).mono ?_
 rintro e w' ⟨rfl, rfl⟩
 go_wp2_with fail
 refine (C2.out _).mono ?_
 rintro e w' ⟨rfl, rfl⟩
 go_wp2
 go_ret
 exact ⟨rfl, rfl⟩
theorem val_zero1 : val (LA ⟨#[48]⟩) = 0 := by decide
theorem isFracQ (q : Rat) (h : Bd 90 q) (w : World) : Calls Tryz.prog 170 #[.string (nt q), .string (dt q)] w (RetB w true) := by
 by_cases hd : q.den = 1
 · have e : dt q = ⟨#[49]⟩ := by unfold dt; rw [hd]; decide
   rw [e]
   exact (isFractionP q.num h.1 w).mono fun e w' hh => ⟨hh.1, hh.2 ▸ Below.refl _ _⟩
 · have s1 := bd_nt h
   have s2 := bd_dt h
   have C1 : Hid (∀ w, Calls Tryz.prog 183 #[.string (nt q)] w fun e w' => e = .returned (.bool true) ∧ w = w') := fun w => isShortP q.num h.1 w
   have C2 : Hid (∀ w, Calls Tryz.prog 183 #[.string (dt q)] w fun e w' => e = .returned (.bool true) ∧ w = w') := fun w => isShortP (q.den : Int) (by rw [Int.natAbs_natCast]; exact h.2) w
   have C3 : Hid (∀ w, Calls Tryz.prog 184 #[.string (dt q), .string ⟨#[48]⟩] w fun e w' => e = .returned (.int .i64 1) ∧ w = w') := fun w => by
    have h3 := compare_any (dt q) ⟨#[48]⟩ w (by omega) (by decide)
    rw [val_dt, val_zero1] at h3
    have : ordI (q.den : Int) 0 = 1 := by
     have := q.den_pos
     unfold ordI
     rw [if_neg (by omega), if_pos (by omega)]
    rw [this] at h3
    exact h3
   have C4 : Hid (∀ w, Calls Tryz.prog 185 #[.string (nt q), .string (dt q)] w fun e w' => e = .returned (.string ⟨#[49]⟩) ∧ Below w.heap.size w w') := fun w => by
    have h4 := gcd_any (nt q) (dt q) w (by omega) (by omega)
    rw [← val_natAbs, ← val_natAbs, val_nt, val_dt, Int.natAbs_natCast, q.reduced.gcd_eq_one] at h4
    exact h4
   have hn : ((dt q).toList == [49]) = false := by
    rw [beq_eq_false_iff_ne]
    intro e
    apply hd
    have e2 : LA (dt q) = [49] := by rw [← e, Lib.toList_data]; rfl
    have := val_dt q
    rw [e2] at this
    have h1 : val [49] = 1 := by decide
    omega
   clear h hd s1 s2
   generalize nt q = nq at *
   generalize dt q = dq at *
   go_enter Tryz.func170, Tryz.ntmps170
   go_wp2_with fail
   refine (C1.out _).mono ?_
   rintro e w' ⟨rfl, rfl⟩
   go_wp2_with fail
   refine (C2.out _).mono ?_
   rintro e w' ⟨rfl, rfl⟩
   go_wp2_with fail
   refine (C3.out _).mono ?_
   rintro e w' ⟨rfl, rfl⟩
   go_wp2_with fail
   refine (C4.out _).mono ?_
   rintro e w' ⟨rfl, hb⟩
   have HB := qh9 hb
   clear hb
   go_wp2
   go_ret
   exact ⟨rfl, HB.out⟩
theorem eqS_self (s1 s2 s3 s4 s5 : ByteArray) : eqS s1 s2 s3 s4 s5 s1 s2 s3 s4 s5 = true := by unfold eqS; simp
theorem hasOnlyP (b k : Nat) (w : World) (x : Int) (s1 s2 s3 s4 s5 : ByteArray) (A : Option Addr) (n c : Nat)
 (l0 : w.cell? ⟨b, k, none⟩ = some (.int .i64 x)) (l1 : w.cell? ⟨b, k + 1, none⟩ = some (.string s1)) (l2 : w.cell? ⟨b, k + 2, none⟩ = some (.string s2)) (l3 : w.cell? ⟨b, k + 3, none⟩ = some (.string s3)) (l4 : w.cell? ⟨b, k + 4, none⟩ = some (.string s4)) (l5 : w.cell? ⟨b, k + 5, none⟩ = some (.string s5)) (l6 : w.cell? ⟨b, k + 6, none⟩ = some (.slice A n c)) :
 Calls Tryz.prog 169 #[.pointer (some ⟨b, k, none⟩), .agg #[.int .i64 0, .string s1, .string s2, .string s3, .string s4, .string s5, .slice A n c]] w (RetB w true) := by
 have hlt := World.block_lt_of_cell? w _ l0
 have hne : ¬ b = w.heap.size := by have : b < w.heap.size := hlt; omega
 have hb0 := Below.alloc (Below.refl w.heap.size w) (Nat.le_refl _) (.cells #[.int .i64 x, .string s1, .string s2, .string s3, .string s4, .string s5, .slice A n c] 33)
 have hg0 := heap_alloc_new w (.cells #[.int .i64 x, .string s1, .string s2, .string s3, .string s4, .string s5, .slice A n c] 33)
 go_enter Tryz.func169, Tryz.ntmps169
 go_wp2_with fail
 have k0 := (hb0.cell (p := ⟨b, k, none⟩) hlt).trans l0
 have k1 := (hb0.cell (p := ⟨b, k + 1, none⟩) hlt).trans l1
 have k2 := (hb0.cell (p := ⟨b, k + 2, none⟩) hlt).trans l2
 have k3 := (hb0.cell (p := ⟨b, k + 3, none⟩) hlt).trans l3
 have k4 := (hb0.cell (p := ⟨b, k + 4, none⟩) hlt).trans l4
 have k5 := (hb0.cell (p := ⟨b, k + 5, none⟩) hlt).trans l5
 have k6 := (hb0.cell (p := ⟨b, k + 6, none⟩) hlt).trans l6
 generalize w.alloc (.cells #[.int .i64 x, .string s1, .string s2, .string s3, .string s4, .string s5, .slice A n c] 33) = W at hb0 hg0 k0 k1 k2 k3 k4 k5 k6 ⊢
 obtain ⟨⟨g0, g1, g2, g3, g4, g5, g6⟩, _⟩ := row7 hg0
 have C : Hid (∀ m, Calls Tryz.prog 165 #[.pointer (some ⟨b, k, none⟩), .pointer (some ⟨w.heap.size, 0, none⟩)] (W.drewN m) (QuietV (W.drewN m) (.bool true))) := fun m => by
  have h := sameRaw b k w.heap.size 0 (W.drewN m) x x s1 s2 s3 s4 s5 s1 s2 s3 s4 s5 k0 k1 k2 k3 k4 k5 g0 g1 g2 g3 g4 g5
  rw [eqS_self] at h
  simpa using h
 have HB := qh9 hb0
 clear l0 l1 l2 l3 l4 l5 l6 k0 k1 k2 k3 k4 k5 g0 g1 g2 g3 g4 g5 hg0 hb0
 go_quiet ((go_at_call 165; exact Calls.quiet_of (C.out _)))
 go_wp2
 go_ret
 exact ⟨rfl, HB.out.trans (⟨rfl, rfl, rfl, Nat.le_refl _, fun _ _ => rfl⟩ : Below w.heap.size W (W.drewN nq))⟩

theorem wellP : ∀ (a : Ob) (b k : Nat) (p : Value) (w : World) (S : Nat → Prop), a.bd 90 → In S w → At w S a b k p →
 Calls Tryz.prog 154 #[.pointer (some ⟨b, k, none⟩)] w (RetB w true) := by
 intro a
 induction a with
 | num q =>
  intro b k p w S hwf hS h
  obtain ⟨x0, x1, x2, x3, x4, x5, e, l0, l1, l2, l3, l4, l5, l6⟩ := h.cells
  obtain rfl := h.2.2.flat rfl
  have hlt : b < w.heap.size := hS b h.1.1
  rw [cellsO_f] at e
  simp only [List.cons.injEq, and_true] at e
  obtain ⟨rfl, rfl, rfl, rfl, rfl, rfl⟩ := e
  have hF : Hid (∀ w, Calls Tryz.prog 170 #[.string (nt q), .string (dt q)] w (RetB w true)) := fun w => isFracQ q hwf w
  have HO : Hid (∀ wd, Below w.heap.size w wd → Calls Tryz.prog 169 #[.pointer (some ⟨b, k, none⟩), .agg #[.int .i64 0, .string (nt q), .string (dt q), .string ⟨#[]⟩, .string ⟨#[]⟩, .string ⟨#[]⟩, .slice none 0 0]] wd (RetB wd true)) := fun wd hb =>
   hasOnlyP b k wd 1 (nt q) (dt q) ⟨#[]⟩ ⟨#[]⟩ ⟨#[]⟩ none 0 0 ((hb.cell (p := ⟨b, k, none⟩) hlt).trans l0) ((hb.cell (p := ⟨b, k + 1, none⟩) hlt).trans l1) ((hb.cell (p := ⟨b, k + 2, none⟩) hlt).trans l2) ((hb.cell (p := ⟨b, k + 3, none⟩) hlt).trans l3) ((hb.cell (p := ⟨b, k + 4, none⟩) hlt).trans l4) ((hb.cell (p := ⟨b, k + 5, none⟩) hlt).trans l5) ((hb.cell (p := ⟨b, k + 6, none⟩) hlt).trans l6)
  have HC : Hid (∀ wd, Below w.heap.size w wd → wd.cell? ⟨b, k + 1, none⟩ = some (.string (nt q)) ∧ wd.cell? ⟨b, k + 2, none⟩ = some (.string (dt q))) := fun wd hb => ⟨(hb.cell (p := ⟨b, k + 1, none⟩) hlt).trans l1, (hb.cell (p := ⟨b, k + 2, none⟩) hlt).trans l2⟩
  have hB0 : Below w.heap.size w w.drew := (Below.refl _ _).drew
  change w.cell? ⟨b, k, none⟩ = some (.int .i64 1) at l0
  change w.cell? ⟨b, k + 1, none⟩ = some (.string (nt q)) at l1
  change w.cell? ⟨b, k + 2, none⟩ = some (.string (dt q)) at l2
  clear l3 l4 l5 l6 h hwf
  generalize nt q = nq at *
  generalize dt q = dq at *
  go_enter Tryz.func154, Tryz.ntmps154
  go_wp2_with fail
  go_region_held3 (fun W' => W'.cell? ⟨b, k + 1, none⟩ = some (.string nq) ∧ W'.cell? ⟨b, k + 2, none⟩ = some (.string dq)) (go_keep)
   (first
     | (go_at_call 169; refine (HO.out _ ‹Below w.heap.size w _›).mono ?_; rintro e w3 ⟨rfl, hb3⟩; have hB3 := chain2 ‹Below w.heap.size w _› hb3 (Nat.le_refl _); obtain ⟨l1, l2⟩ := HC.out _ hB3; clear hb3)
     | (go_at_call 170; refine (hF.out _).mono ?_; rintro e w4 ⟨rfl, hb4⟩; have hB4 := chain2 ‹Below w.heap.size w _› hb4 (Nat.le_refl _); obtain ⟨l1, l2⟩ := HC.out _ hB4; clear hb4))
  all_goals go_wp2
  all_goals go_ret
  all_goals exact ⟨rfl, ‹Below w.heap.size w _›⟩
 | str s =>
  intro b k p w S hwf hS h
  obtain ⟨x0, x1, x2, x3, x4, x5, e, l0, l1, l2, l3, l4, l5, l6⟩ := h.cells
  obtain rfl := h.2.2.flat rfl
  have hlt : b < w.heap.size := hS b h.1.1
  rw [cellsO_f] at e
  simp only [List.cons.injEq, and_true] at e
  obtain ⟨rfl, rfl, rfl, rfl, rfl, rfl⟩ := e
  have hsz : ((BA s).size : Int) ≤ 200 := by rw [BA_size]; have : s.length ≤ 200 := hwf; omega
  change w.cell? ⟨b, k, none⟩ = some (.int .i64 3) at l0
  change w.cell? ⟨b, k + 5, none⟩ = some (.string (BA s)) at l5
  have HO := qh9 (hasOnlyP b k w 3 ⟨#[]⟩ ⟨#[]⟩ ⟨#[]⟩ ⟨#[]⟩ (BA s) none 0 0 l0 l1 l2 l3 l4 l5 l6)
  have HC : Hid (∀ wd, Below w.heap.size w wd → wd.cell? ⟨b, k + 5, none⟩ = some (.string (BA s))) := fun wd hb => (hb.cell (p := ⟨b, k + 5, none⟩) hlt).trans l5
  clear l1 l2 l3 l4 l6 h hwf
  generalize BA s = t at *
  go_enter Tryz.func154, Tryz.ntmps154
  go_wp2_with fail
  refine HO.out.mono ?_
  rintro e w1 ⟨rfl, hb1⟩
  have j5 := HC.out _ hb1
  have HB := qh9 hb1
  clear hb1 l5 l0
  go_wp2
  go_ret
  exact ⟨rfl, HB.out⟩
 | sym s n =>
  intro b k p w S hwf hS h
  obtain ⟨x0, x1, x2, x3, x4, x5, e, l0, l1, l2, l3, l4, l5, l6⟩ := h.cells
  obtain rfl := h.2.2.flat rfl
  have hlt : b < w.heap.size := hS b h.1.1
  rw [cellsO_f] at e
  simp only [List.cons.injEq, and_true] at e
  obtain ⟨rfl, rfl, rfl, rfl, rfl, rfl⟩ := e
  obtain ⟨hpk, hn1, hn2⟩ := hwf
  have hN := fun w => isNameP (BA n) (by rw [BA_size]; exact hn1) (by rw [BA_size]; exact hn2) w
  replace hN := qh9 hN
  have hP : Hid (∀ w, Calls Tryz.prog 171 #[.string (BA s)] w fun e w' => e = .returned (.bool true) ∧ w = w') := by
   rcases hpk with rfl | rfl
   · exact isPackageP
   · exact isPackageU
  change w.cell? ⟨b, k, none⟩ = some (.int .i64 2) at l0
  change w.cell? ⟨b, k + 3, none⟩ = some (.string (BA s)) at l3
  change w.cell? ⟨b, k + 4, none⟩ = some (.string (BA n)) at l4
  have HO := qh9 (hasOnlyP b k w 2 ⟨#[]⟩ ⟨#[]⟩ (BA s) (BA n) ⟨#[]⟩ none 0 0 l0 l1 l2 l3 l4 l5 l6)
  have HC : Hid (∀ wd, Below w.heap.size w wd → wd.cell? ⟨b, k + 3, none⟩ = some (.string (BA s)) ∧ wd.cell? ⟨b, k + 4, none⟩ = some (.string (BA n))) := fun wd hb => ⟨(hb.cell (p := ⟨b, k + 3, none⟩) hlt).trans l3, (hb.cell (p := ⟨b, k + 4, none⟩) hlt).trans l4⟩
  clear l1 l2 l5 l6 h hn1 hn2 hpk
  generalize BA s = t at *
  generalize BA n = t' at *
  go_enter Tryz.func154, Tryz.ntmps154
  go_wp2_with fail
  refine HO.out.mono ?_
  rintro e w1 ⟨rfl, hb1⟩
  obtain ⟨j3, j4⟩ := HC.out _ hb1
  have HB := qh9 hb1
  clear hb1 l0 l3 l4
  go_wp2_with fail
  refine (hP.out _).mono ?_
  rintro e w2 ⟨rfl, rfl⟩
  go_wp2_with fail
  refine (hN.out _).mono ?_
  rintro e w2 ⟨rfl, rfl⟩
  go_wp2
  go_ret
  exact ⟨rfl, HB.out⟩
 | cons a d iha ihd =>
  intro b k p w S hwf hS h
  obtain ⟨x0, x1, x2, x3, x4, x5, e, l0, l1, l2, l3, l4, l5, l6⟩ := h.cells
  obtain ⟨b', o', c', pa, pd, rfl, hc, hA, hD⟩ := h.2.2.parts
  have hlt : b < w.heap.size := hS b h.1.1
  rw [cellsO_f] at e
  simp only [List.cons.injEq, and_true] at e
  obtain ⟨rfl, rfl, rfl, rfl, rfl, rfl⟩ := e
  have CA : Hid (∀ wd, Below w.heap.size w wd → Calls Tryz.prog 154 #[.pointer (some ⟨b', o', none⟩)] wd (RetB wd true)) := fun wd hb => iha b' o' pa wd S hwf.1 (hS.later hb.size) (hA.below hS hb)
  have CD : Hid (∀ wd, Below w.heap.size w wd → Calls Tryz.prog 154 #[.pointer (some ⟨b', o' + 7, none⟩)] wd (RetB wd true)) := fun wd hb => ihd b' (o' + 7) pd wd S hwf.2 (hS.later hb.size) (hD.below hS hb)
  change w.cell? ⟨b, k, none⟩ = some (.int .i64 4) at l0
  have HO := qh9 (hasOnlyP b k w 4 ⟨#[]⟩ ⟨#[]⟩ ⟨#[]⟩ ⟨#[]⟩ ⟨#[]⟩ (some ⟨b', o', none⟩) 2 c' l0 l1 l2 l3 l4 l5 l6)
  have HC : Hid (∀ wd, Below w.heap.size w wd → wd.cell? ⟨b, k + 6, none⟩ = some (.slice (some ⟨b', o', none⟩) 2 c')) := fun wd hb => (hb.cell (p := ⟨b, k + 6, none⟩) hlt).trans l6
  clear l1 l2 l3 l4 l5 h hwf iha ihd hA hD
  go_enter Tryz.func154, Tryz.ntmps154
  go_wp2_with fail
  refine HO.out.mono ?_
  rintro e w1 ⟨rfl, hb1⟩
  have j6 := HC.out _ hb1
  have HB := qh9 hb1
  clear hb1 l0 l6
  go_wp2_with fail
  refine (CA.out _ HB.out).mono ?_
  rintro e w2 ⟨rfl, hb2⟩
  have HB2 := qc9 HB hb2
  have j7 := HC.out _ HB2.out
  clear hb2 j6
  go_wp2_with fail
  refine (CD.out _ HB2.out).mono ?_
  rintro e w3 ⟨rfl, hb3⟩
  have HB3 := qc9 HB2 hb3
  clear hb3 j7
  go_wp2
  go_ret
  exact ⟨rfl, HB3.out⟩

theorem validP (a : Ob) (p : Value) (w : World) (S : Nat → Prop) (hwf : a.bd 90) (hn : a.nodes ≤ 3000) (hS : In S w) (h : Pair w S a p) :
 Calls Tryz.prog 125 #[vO a p] w (RetB w true) := by
 obtain ⟨x0, x1, x2, x3, x4, x5, e⟩ := cells7 a p
 have hb : Below w.heap.size w (w.alloc (.cells #[x0, x1, x2, x3, x4, x5, p] 33)) := Below.alloc (Below.refl _ _) (Nat.le_refl _) _
 have hg := heap_alloc_new w (.cells #[x0, x1, x2, x3, x4, x5, p] 33)
 have hA : At (w.alloc (.cells #[x0, x1, x2, x3, x4, x5, p] 33)) (fun b => S b ∨ b = w.heap.size) a w.heap.size 0 p := by
  refine ⟨⟨.inr rfl, _, _, hg⟩, fun j u hj => ?_, (h.below hS hb).more fun _ h => .inl h⟩
  rw [Nat.zero_add, cell_of_row _ _ _ _ _ _ hg, ← hj, e]
  simp
 have hS' : In (fun b => S b ∨ b = w.heap.size) (w.alloc (.cells #[x0, x1, x2, x3, x4, x5, p] 33)) := fun b hb => by
  rcases hb with hb | rfl
  · have := hS b hb; simp; omega
  · simp
 have N := nodesP a p _ S (hS.later hb.size) (h.below hS hb) hn
 unfold vO at N
 rw [e] at N
 replace N := qh9 N
 have V : Hid (∀ wd, Below (w.heap.size + 1) (w.alloc (.cells #[x0, x1, x2, x3, x4, x5, p] 33)) wd → Calls Tryz.prog 154 #[.pointer (some ⟨w.heap.size, 0, none⟩)] wd (RetB wd true)) := fun wd hb' =>
  wellP a w.heap.size 0 p wd _ hwf (hS'.later hb'.size) (hA.below (B := w.heap.size + 1) (fun b hb => by have := hS' b hb; simpa using this) hb')
 unfold vO
 rw [e]
 have hz : (w.alloc (.cells #[x0, x1, x2, x3, x4, x5, p] 33)).heap.size = w.heap.size + 1 := by simp
 have hnn : (a.nodes : Int) ≤ 3000 := by omega
 clear e hA hS' h hS hg hwf
 go_enter Tryz.func125, Tryz.ntmps125
 go_wp2_with fail
 refine N.out.mono ?_
 rintro e w1 ⟨rfl, hb1⟩
 rw [hz] at hb1
 have V1 := qh9 (V.out _ hb1)
 have HB := qh9 (hb.trans (hb1.mono (by omega)))
 clear hb1 hb V N hz
 go_wp2_with fail
 refine V1.out.mono ?_
 rintro e w2 ⟨rfl, hb2⟩
 have HB2 := qh9 (HB.out.trans (hb2.mono HB.out.size))
 clear hb2
 go_wp2
 go_ret
 exact ⟨rfl, HB2.out⟩






end Go.Proofs.YtinjhnnpbejccaaGreatDoor
