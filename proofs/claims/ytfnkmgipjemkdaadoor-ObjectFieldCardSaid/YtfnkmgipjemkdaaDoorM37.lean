/- The program's Items. -/
import Derived.Test.YtfnkmgipjemkdaaDoorM36
import Derived.Deep.MidRow
import Derived.Laws.MakeOwn
import Derived.Deep.QuietTactic
import Derived.BigQuiet
namespace Go.Proofs.YtfnkmgipjemkdaaDoor
open Go Go.RowKit
set_option linter.unusedVariables false

theorem Ob.items_eq : ∀ {a : Ob} {l : List Ob}, a.items = some l → a = Ob.list l
  | .cons a d, l, h => by
    simp only [Ob.items, Option.map_eq_some_iff] at h
    obtain ⟨l', h1, rfl⟩ := h
    rw [Ob.items_eq h1]
    rfl
  | .num q, l, h => by simp [Ob.items, Ob.nil] at h
  | .str s, l, h => by simp [Ob.items, Ob.nil] at h
  | .sym x y, l, h => by
    simp only [Ob.items] at h
    split at h
    · rename_i e
      injection h with h
      subst h
      exact e
    · cases h
theorem Ob.cnt_items : ∀ (a : Ob) (n : Nat), a.cnt n = a.items.map (fun l => n + l.length)
  | .cons a d, n => by
    simp only [Ob.cnt, Ob.items, Ob.cnt_items d, Option.map_map]
    congr 1
    funext l
    simp only [Function.comp_apply, List.length_cons]
    omega
  | .num q, n => by simp [Ob.cnt, Ob.items, Ob.nil]
  | .str s, n => by simp [Ob.cnt, Ob.items, Ob.nil]
  | .sym x y, n => by
    simp only [Ob.cnt, Ob.items]
    split <;> simp
theorem Ob.list_nodes : ∀ l : List Ob, 2 * l.length + 1 ≤ (Ob.list l).nodes
  | [] => by simp [Ob.list, Ob.nodes, Ob.nil]
  | a :: l => by
    have h := Ob.list_nodes l
    have p := a.nodes_pos
    show 2 * (l.length + 1) + 1 ≤ 1 + a.nodes + (Ob.list l).nodes
    omega

theorem make_rowN {P : Program} (t e : TypeId) (i : TypeInfo) (z : Value) (ht : P.underlying t = some (.slice e)) (hi : P.info? e = some i) (hz : i.zero = some z)
    (kl kc : IntKind) (n c : Nat) (hnc : n ≤ c) (hbytes : i.bytes * c ≤ 281474976710656) (h63 : c ≤ 9223372036854775807) (w : World) :
    (Instr.makeSlice t (.int kl (n : Int)) (.int kc (c : Int))).run P w = .ok (.slice (some ⟨w.heap.size, 0, none⟩) n c) (w.alloc (.cells (madeCells z.cells (c * i.size)) e)) := by
  have hb : (i.bytes : Int) * (c : Int) ≤ 281474976710656 := by
    have h : ((i.bytes * c : Nat) : Int) ≤ 281474976710656 := by omega
    rwa [Int.natCast_mul] at h
  have hr := run_make (P := P) w t e i z ht hi hz kl kc n c (by omega) (by omega) hb (by omega)
  simp only [Int.toNat_natCast] at hr
  exact hr
theorem info_of {P : Program} {t : TypeId} {z : Value} {a b : Nat} (h : (P.info? t).map (fun i => (i.zero, i.size, i.bytes)) = some (some z, a, b)) : ∃ i, P.info? t = some i ∧ i.zero = some z ∧ i.size = a ∧ i.bytes = b := by
  generalize P.info? t = x at h ⊢
  cases x with
  | none => cases h
  | some j =>
    simp only [Option.map_some, Option.some.injEq, Prod.mk.injEq] at h
    exact ⟨j, rfl, h.1, h.2.1, h.2.2⟩
def zeroO : Value := .agg #[.int .i64 0, e0, e0, e0, e0, e0, .slice none 0 0]
theorem makeO (n : Nat) (h : n ≤ 100000) (w : World) : ∃ cs : Array Value, cs.size = n * 7 ∧
    (Instr.makeSlice 25 (.int .i64 (n : Int)) (.int .i64 (n : Int))).run Tryd.prog w = .ok (.slice (some ⟨w.heap.size, 0, none⟩) n n) (w.alloc (.cells cs 27)) := by
  obtain ⟨i, hi, hz, hs, hb⟩ := info_of (P := Tryd.prog) (t := 27) (z := zeroO) (a := 7) (b := 112) (by kernel_rfl)
  refine ⟨madeCells zeroO.cells (n * i.size), ?_, make_rowN _ _ i zeroO Tryd.underlying25 hi hz .i64 .i64 n n (Nat.le_refl _) (by rw [hb]; omega) (by omega) w⟩
  rw [hs]
  simp [madeCells]
theorem setCells_other (g k : Nat) (h : k ≠ g) : ∀ (vs : List Value) (o : Nat) (w : World), (w.setCells g o vs).heap[k]? = w.heap[k]?
  | [], _, _ => rfl
  | v :: r, o, w => (setCells_other g k h r (o + 1) _).trans (Below.heap_setCell w ⟨g, o, none⟩ v k h)
theorem setCells_size (g : Nat) : ∀ (vs : List Value) (o : Nat) (w : World), (w.setCells g o vs).heap.size = w.heap.size
  | [], _, _ => rfl
  | v :: r, o, w => (setCells_size g r (o + 1) _).trans (by simp [World.setCell])
theorem setCells_below {B g : Nat} {w0 : World} (hg : B ≤ g) : ∀ (vs : List Value) (o : Nat) (w : World), Below B w0 w → Below B w0 (w.setCells g o vs)
  | [], _, _, h => h
  | v :: r, o, w, h => setCells_below hg r (o + 1) _ (h.setCell hg v)

def RetIt (w : World) (S : Nat → Prop) (r : Option (List Ob)) (e : Ending) (w' : World) : Prop :=
  Below w.heap.size w w' ∧ match r with
  | some l => ∃ g, e = .returned (.tuple #[.slice (some ⟨g, 0, none⟩) l.length l.length, .bool true]) ∧ ObsAt w' S g 0 l ∧ w.heap.size ≤ g ∧ g < w'.heap.size
  | none => e = .returned (.tuple #[.slice none 0 0, .bool false])

/-- Between rounds: the rest lies in the box g0, the elements taken so far in g1. -/
def ItW (w wr : World) (S : Nat → Prop) (l : List Ob) (g0 g1 i : Nat) : Prop :=
  Below w.heap.size w wr ∧ (∃ p t, wr.heap[g0]? = some (.cells (cellsO (Ob.list (l.drop i)) p).toArray t (0, 0)) ∧ Pair wr S (Ob.list (l.drop i)) p) ∧ ObsAt wr S g1 0 (l.take i) ∧ wr.there g1 0 (l.length * 7) ∧ g1 < wr.heap.size

theorem obsAt_keep {w w' : World} {S : Nat → Prop} {g : Nat} (hk : ∀ b, S b → w'.heap[b]? = w.heap[b]?) : ∀ {l : List Ob} {o : Nat}, (∀ j u, o ≤ j → j < o + l.length * 7 → w.cell? ⟨g, j, none⟩ = some u → w'.cell? ⟨g, j, none⟩ = some u) → ObsAt w S g o l → ObsAt w' S g o l
  | [], _, _, _ => by unfold ObsAt; trivial
  | a :: l, o, hc, h => by
    unfold ObsAt at h ⊢
    obtain ⟨⟨p, h1, h2⟩, h3⟩ := h
    refine ⟨⟨p, h1.keep (fun _ h => h) hk, fun j u hj => hc (o + j) u (by omega) ?_ (h2 j u hj)⟩, obsAt_keep hk (fun j u h1 h2 h3 => hc j u (by omega) (by simp only [List.length_cons]; omega) h3) h3⟩
    have : j < 7 := by
      rw [← cellsO_length a p]
      rcases Nat.lt_or_ge j (cellsO a p).length with hlt | hge
      · exact hlt
      · rw [List.getElem?_eq_none hge] at hj; cases hj
    simp only [List.length_cons]
    omega
theorem obsAt_snoc {w : World} {S : Nat → Prop} {g : Nat} {a : Ob} {p : Value} (hp : Pair w S a p) : ∀ {l : List Ob} {o : Nat}, ObsAt w S g o l → (∀ j u, (cellsO a p)[j]? = some u → w.cell? ⟨g, o + l.length * 7 + j, none⟩ = some u) → ObsAt w S g o (l ++ [a])
  | [], o, h, hc => by
    show ObsAt w S g o [a]
    unfold ObsAt
    exact ⟨⟨p, hp, by simpa using hc⟩, by unfold ObsAt; trivial⟩
  | b :: l, o, h, hc => by
    show ObsAt w S g o (b :: (l ++ [a]))
    unfold ObsAt at h ⊢
    refine ⟨h.1, obsAt_snoc hp h.2 fun j u hj => ?_⟩
    rw [show o + 7 + l.length * 7 + j = o + (b :: l).length * 7 + j from by simp only [List.length_cons]; omega]
    exact hc j u hj
theorem obsAt_below {w w' : World} {S : Nat → Prop} {g o B : Nat} {l : List Ob} (h : ObsAt w S g o l) (hS : ∀ b, S b → b < B) (hg : g < B) (hb : Below B w w') : ObsAt w' S g o l :=
  obsAt_keep (fun b hs => hb.block b (hS b hs)) (fun j u _ _ hc => (hb.cell (p := ⟨g, j, none⟩) hg).trans hc) h
theorem there_keep {w w' : World} {g o n : Nat} (h : w.there g o n) (hk : w'.heap[g]? = w.heap[g]?) : w'.there g o n := fun j hj => by
  have := h j hj
  rw [World.cell?_of_block (a := ⟨g, o + j, none⟩) hk, World.frozen?_of_block (a := ⟨g, o + j, none⟩) hk]
  exact this

/-- One round: the element lies in its place. -/
theorem it_put {w wr : World} {S : Nat → Prop} {l : List Ob} {g0 g1 i : Nat} {a : Ob} {pa : Value} (hS : In S w) (hg0 : w.heap.size ≤ g0) (hg1 : w.heap.size ≤ g1) (h01 : g0 ≠ g1) (hil : i < l.length) (h : ItW w wr S l g0 g1 i) (hpa : Pair wr S l[i] pa) :
    Below w.heap.size w (wr.setCells g1 (i * 7) (cellsO l[i] pa)) ∧ ObsAt (wr.setCells g1 (i * 7) (cellsO l[i] pa)) S g1 0 (l.take (i + 1)) ∧ (wr.setCells g1 (i * 7) (cellsO l[i] pa)).there g1 0 (l.length * 7) := by
  obtain ⟨hb, _, ho, ht, hlt⟩ := h
  have hk : ∀ b, S b → (wr.setCells g1 (i * 7) (cellsO l[i] pa)).heap[b]? = wr.heap[b]? := fun b hs => setCells_other g1 b (by have := hS b hs; omega) _ _ _
  have hlen : (l.take i).length = i := by rw [List.length_take]; omega
  refine ⟨setCells_below hg1 _ _ _ hb, ?_, fun j hj => ?_⟩
  · rw [List.take_succ_eq_append_getElem hil]
    refine obsAt_snoc (hpa.keep (fun _ h => h) hk) (obsAt_keep hk (fun j u h1 h2 hc => ?_) ho) (fun j u hj => ?_)
    · rw [World.cell?_setCells_out _ _ _ _ _ (fun _ _ => .inl (by show j < i * 7; rw [hlen] at h2; omega))]
      exact hc
    · have hj7 : j < (cellsO l[i] pa).length := by
        rcases Nat.lt_or_ge j (cellsO l[i] pa).length with hlt | hge
        · exact hlt
        · rw [List.getElem?_eq_none hge] at hj; cases hj
      rw [hlen, Nat.zero_add, World.cell?_setCells_in _ _ _ _ (fun j hj => ?_) j hj7, ← List.getElem?_eq_getElem hj7]
      · exact hj
      · have := (ht (i * 7 + j) (by rw [cellsO_length] at hj; omega)).1
        rwa [Nat.zero_add] at this
  · refine ⟨?_, by rw [World.frozen?_setCells]; exact (ht j hj).2⟩
    by_cases hin : i * 7 ≤ 0 + j ∧ 0 + j < i * 7 + 7
    · have := World.cell?_setCells_in g1 (cellsO l[i] pa) (i * 7) wr (fun k hk => by
        have := (ht (i * 7 + k) (by rw [cellsO_length] at hk; omega)).1
        rwa [Nat.zero_add] at this) (j - i * 7) (by rw [cellsO_length]; omega)
      rw [show i * 7 + (j - i * 7) = 0 + j from by omega] at this
      rw [this]; rfl
    · rw [World.cell?_setCells_out _ _ _ _ _ (fun _ _ => by rw [cellsO_length]; show 0 + j < i * 7 ∨ i * 7 + 7 ≤ 0 + j; omega)]
      exact (ht j hj).1
end Go.Proofs.YtfnkmgipjemkdaaDoor

/- The walk of the program's Items. -/
namespace Go.Proofs.YtfnkmgipjemkdaaDoor
open Go Go.RowKit
set_option linter.unusedVariables false

set_option maxHeartbeats 4000000 in
set_option maxRecDepth 100000 in
theorem itemsP (a : Ob) (p : Value) (w : World) (S : Nat → Prop) (hS : In S w) (h : Pair w S a p) (hn : a.nodes ≤ 100000) :
    Calls Tryd.prog 15 #[vO a p] w (RetIt w S a.items) := by
  obtain ⟨R, hR⟩ : ∃ R, a.items = R := ⟨_, rfl⟩
  rw [hR]
  obtain ⟨x0, x1, x2, x3, x4, x5, e⟩ := cells7 a p
  have hb : Below w.heap.size w (w.alloc (.cells #[x0, x1, x2, x3, x4, x5, p] 27)) := Below.alloc (Below.refl _ _) (Nat.le_refl _) _
  have hg := heap_alloc_new w (.cells #[x0, x1, x2, x3, x4, x5, p] 27)
  have hA : At (w.alloc (.cells #[x0, x1, x2, x3, x4, x5, p] 27)) (fun b => S b ∨ b = w.heap.size) a w.heap.size 0 p := by
    refine ⟨⟨.inr rfl, _, _, hg⟩, fun j u hj => ?_, (h.below hS hb).more fun _ h => .inl h⟩
    rw [Nat.zero_add, cell_of_row _ _ _ _ _ _ hg, ← hj, e]
    simp
  have hS' : In (fun b => S b ∨ b = w.heap.size) (w.alloc (.cells #[x0, x1, x2, x3, x4, x5, p] 27)) := fun b hb => by
    rcases hb with hb | rfl
    · have := hS b hb; simp; omega
    · simp
  have call := Lib.hid (lengthP a w.heap.size 0 p _ _ hS' hA hn)
  have EQ := Lib.hid e
  have HI := Lib.hid hR
  rw [Ob.cnt_items, hR] at call
  clear hR
  unfold vO
  rw [e]
  clear e hA hS'
  have hz : (w.alloc (.cells #[x0, x1, x2, x3, x4, x5, p] 27)).heap.size = w.heap.size + 1 := by simp
  go_enter Tryd.func15, Tryd.ntmps15
  go_wp2_with fail
  generalize w.alloc (.cells #[x0, x1, x2, x3, x4, x5, p] 27) = W at hb hg call hz ⊢
  refine call.out.mono ?_
  rintro e w1 ⟨rfl, hb1⟩
  have hz1 := hb1.size
  have hg1 := (hb1.block w.heap.size (by omega)).trans hg
  have hb2 := hb.trans (hb1.mono (by omega))
  clear call hb hg hb1
  cases R with
  | none =>
    have HB := Lib.hid hb2
    clear hg1 hb2 hz hz1
    simp only [lenV, Option.map_none]
    go_wp2
    go_ret2
    exact ⟨HB.out, rfl⟩
  | some l =>
    obtain rfl := Ob.items_eq HI.out
    have hl : l.length ≤ 100000 := by have := Ob.list_nodes l; omega
    obtain ⟨cs, hcs, hmk⟩ := makeO l.length hl w1
    have hp1 := (h.below hS hb2)
    obtain ⟨L, hL⟩ : ∃ L, l.length = L := ⟨_, rfl⟩
    have HL := Lib.hid hL
    rw [hL] at hl hmk hcs
    have hgW := heap_alloc_new w1 (.cells cs 27)
    have hbW := Below.alloc hb2 (by omega) (.cells cs 27)
    have hzW : (w1.alloc (.cells cs 27)).heap.size = w1.heap.size + 1 := by simp
    have hg0W := (Below.heap_alloc w1 (.cells cs 27) w.heap.size (by omega)).trans hg1
    simp only [lenV, Option.map_some, Nat.zero_add]
    rw [hL]
    clear hL
    go_wp2_with fail
    generalize w1.alloc (.cells cs 27) = W1 at hgW hbW hzW hg0W ⊢
    have h0 : Hid (ItW w W1 S l w.heap.size w1.heap.size 0) := by
      refine ⟨hbW, ⟨p, 27, ?_, h.below hS hbW⟩, by unfold ObsAt; trivial, fun j hj => ?_, by omega⟩
      · rw [List.drop_zero, EQ.out]; exact hg0W
      · rw [HL.out] at hj
        refine ⟨?_, ?_⟩
        · rw [Nat.zero_add, cell_of_row _ _ _ _ _ _ hgW, Array.getElem?_eq_getElem (by omega)]; rfl
        · simp [World.frozen?, hgW]
    have hgg : w.heap.size < w1.heap.size := by omega
    generalize w1.heap.size = g1 at hgg h0 ⊢
    clear hgW hbW hzW hg0W hg1 hb2 hcs hmk hp1 hz1 hz
    go_loopw [17] (fun v wr => ∃ i : Nat, i ≤ L ∧ v = .int .i64 (i : Int) ∧ Hid (ItW w wr S l w.heap.size g1 i)) (fun v _ => L - (intOf v).toNat)
    case atStart => exact ⟨0, Nat.zero_le _, rfl, h0⟩
    case round =>
      clear h0
      obtain ⟨i, hiL, rfl, hE⟩ := hrel
      obtain ⟨wo, rfl⟩ : ∃ wo : World, wo = wr := ⟨_, rfl⟩
      by_cases hlt : i < L
      · obtain ⟨hb, ⟨q, t, hh, hq⟩, ho, ht, hg⟩ := hE.out
        have hil : i < l.length := by rw [HL.out]; exact hlt
        have hld := Lib.hid (list_drop hil)
        rw [hld.out] at hh hq
        obtain ⟨b, o, c, pa, pd, rfl, hc, hAa, hAd⟩ := hq.parts
        have put := it_put (a := l[i]) hS (Nat.le_refl _) (by omega) (by omega) hil hE.out hAa.2.2
        obtain ⟨x0', x1', x2', x3', x4', x5', ea, l0, l1, l2, l3, l4, l5, l6⟩ := hAa.cells
        have hbw : b ≠ g1 := by have := hS b hAa.1.1; omega
        have hbw0 : b ≠ w.heap.size := by have := hS b hAa.1.1; omega
        have hAd2 := hAd.keep (w' := wo.setCells g1 (i * 7) (cellsO l[i] pa)) (fun _ h => h) (fun b hs => setCells_other g1 b (by have := hS b hs; omega) _ _ _)
        obtain ⟨y0, y1, y2, y3, y4, y5, ed, d0, d1, d2, d3, d4, d5, d6⟩ := hAd2.cells
        have hh2 : (wo.setCells g1 (i * 7) (cellsO l[i] pa)).heap[w.heap.size]? = _ := (setCells_other g1 w.heap.size (by omega) _ _ _).trans hh
        have hs2 := setCells_size g1 (cellsO l[i] pa) (i * 7) wo
        have m6 : wo.cell? ⟨w.heap.size, 6, none⟩ = some (.slice (some ⟨b, o, none⟩) 2 c) := by rw [cell_of_row _ _ _ _ _ _ hh]; rfl
        have n6 : (wo.setCells g1 (i * 7) (cellsO l[i] pa)).cell? ⟨w.heap.size, 6, none⟩ = some (.slice (some ⟨b, o, none⟩) 2 c) := by rw [cell_of_row _ _ _ _ _ _ hh2]; rfl
        have hth : wo.there g1 (i * 7) 7 := fun j hj => by
          have := ht (i * 7 + j) (by omega)
          rwa [Nat.zero_add] at this
        have hone := hAa.2.2.one
        rw [ea] at hone
        have HIT : ∀ W, W.heap[w.heap.size]? = some (.cells (cellsO (Ob.list (l.drop (i + 1))) pd).toArray t (0, 0)) → W.heap.size = wo.heap.size → (∀ b, b ≠ w.heap.size → W.heap[b]? = (wo.setCells g1 (i * 7) (cellsO l[i] pa)).heap[b]?) → Below w.heap.size w W → Hid (ItW w W S l w.heap.size g1 (i + 1)) := by
          intro W hW1 hW2 hW3 hW4
          have hk : ∀ b, S b → W.heap[b]? = (wo.setCells g1 (i * 7) (cellsO l[i] pa)).heap[b]? := fun b hs => hW3 b (by have := hS b hs; omega)
          refine ⟨hW4, ⟨pd, t, hW1, hAd2.2.2.keep (fun _ h => h) hk⟩, obsAt_keep hk (fun j u _ _ hc => (World.cell?_of_block (a := ⟨g1, j, none⟩) (hW3 g1 (by omega))).trans hc) put.2.1, there_keep put.2.2 (hW3 g1 (by omega)), by omega⟩
        have hb2 := put.1
        rw [ea] at hs2 hh2 n6 d0 d1 d2 d3 d4 d5 d6 HIT hb2
        have HIT' := Lib.hid HIT
        have hpd := hAd2.2.2.one
        rw [ed] at hpd
        have hi0 : (i : Int) < L := by omega
        have hwo := Lib.hid hbw
        clear put HIT hE hAa hAd hAd2 hq ho ht ea hh
        obtain ⟨old, hold, hh3⟩ : ∃ old : Array Value, old.size = 7 ∧ (wo.setCells g1 (i * 7) [x0', x1', x2', x3', x4', x5', pa]).heap[w.heap.size]? = some (.cells old t (0, 0)) := ⟨_, by simp [cellsO_length], hh2⟩
        clear hh2
        have HOLD := Lib.hid hold
        clear hold
        have hh2 := hh3
        clear hh3
        have HH2 := Lib.hid hh2
        have HS2 := Lib.hid hs2
        have HONE := Lib.hid hone
        have HPD := Lib.hid hpd
        have HED := Lib.hid ed
        have HB2 := Lib.hid hb2
        have HTH : Hid (wo.there g1 (i * 7) (#[x0', x1', x2', x3', x4', x5', pa] : Array Value).size) := hth
        have hsz : (Tryd.prog.info? 27).map (·.size) = some (#[x0', x1', x2', x3', x4', x5', pa] : Array Value).size := by kernel_rfl
        replace hsz := Lib.hid hsz
        clear hh2 hs2 hone hpd ed hb2 hth
        go_wp2_with (first | (refine wpList_store_mid rfl 27 (.tmp 26) (.tmp 25) rfl g1 (i * 7) #[x0', x1', x2', x3', x4', x5', pa] rfl rfl ?c1 hsz.out HONE.out ?_) | (refine storeO rfl (.tmp 1) (.tmp 30) rfl w.heap.size #[y0, y1, y2, y3, y4, y5, pd] rfl rfl t old ?c2 HOLD.out rfl HPD.out ?_))
        case c1 => exact HTH.out
        case c2 => exact HH2.out
        go_roundw
        case rel =>
          refine ⟨i + 1, by omega, by go_num, HIT'.out _ ?_ ?_ ?_ ?_⟩
          · rw [HED.out]; exact setRow_heap _ _ _ _ _ _ HH2.out
          · rw [size_setRow]; exact HS2.out
          · intro b hb; exact setRow_other _ _ _ _ hb
          · exact below_setRowO HB2.out (Nat.le_refl _) _
        case measure => simp [intOf]; omega
      · have hiL2 : i = L := by omega
        obtain ⟨hb, _, ho, _, hg⟩ := hE.out
        have HR : Hid (RetIt w S (some l) (.returned (.tuple #[.slice (some ⟨g1, 0, none⟩) L L, .bool true])) wo) := by
          refine ⟨hb, ?_⟩
          rw [hiL2, ← HL.out, List.take_length] at ho
          exact ⟨g1, by rw [HL.out], ho, by omega, hg⟩
        have hn : ¬ (i : Int) < L := by omega
        clear hE hb ho hg hiL2 hlt
        go_wp2
        go_ret2
        exact HR.out
end Go.Proofs.YtfnkmgipjemkdaaDoor

/- The program's haveSameFields. -/
namespace Go.Proofs.YtfnkmgipjemkdaaDoor
open Go Go.RowKit
set_option linter.unusedVariables false

/-- The call returned v; the world stands but for draws. -/
def QuietV (w : World) (v : Value) (e : Ending) (w' : World) : Prop := e = .returned v ∧ ∃ n, w' = w.drewN n
theorem QuietV.below {w w' : World} {v : Value} {e : Ending} (h : QuietV w v e w') : e = .returned v ∧ Below w.heap.size w w' := by
  obtain ⟨h1, n, rfl⟩ := h
  exact ⟨h1, rfl, rfl, rfl, Nat.le_refl _, fun _ _ => rfl⟩
theorem quiet_same {P : Program} {f : FuncId} {args : Array Value} {w : World} {n : Nat} {v : Value}
    (h : Calls P f args (w.drewN n) fun e w' => e = .returned v ∧ w.drewN n = w') : Calls P f args (w.drewN n) fun e w'' => e = .returned v ∧ ∃ m, w'' = w.drewN m :=
  h.mono fun _ _ ⟨he, hm⟩ => ⟨he, n, hm.symm⟩

set_option maxHeartbeats 4000000 in
set_option maxRecDepth 100000 in
theorem sameRaw (b k b' k' : Nat) (w : World) (x y : Int) (s1 s2 s3 s4 s5 t1 t2 t3 t4 t5 : ByteArray)
    (l0 : w.cell? ⟨b, k, none⟩ = some (.int .i64 x)) (l1 : w.cell? ⟨b, k + 1, none⟩ = some (.string s1)) (l2 : w.cell? ⟨b, k + 2, none⟩ = some (.string s2)) (l3 : w.cell? ⟨b, k + 3, none⟩ = some (.string s3)) (l4 : w.cell? ⟨b, k + 4, none⟩ = some (.string s4)) (l5 : w.cell? ⟨b, k + 5, none⟩ = some (.string s5))
    (m0 : w.cell? ⟨b', k', none⟩ = some (.int .i64 y)) (m1 : w.cell? ⟨b', k' + 1, none⟩ = some (.string t1)) (m2 : w.cell? ⟨b', k' + 2, none⟩ = some (.string t2)) (m3 : w.cell? ⟨b', k' + 3, none⟩ = some (.string t3)) (m4 : w.cell? ⟨b', k' + 4, none⟩ = some (.string t4)) (m5 : w.cell? ⟨b', k' + 5, none⟩ = some (.string t5)) :
    Calls Tryd.prog 60 #[.pointer (some ⟨b, k, none⟩), .pointer (some ⟨b', k', none⟩)] w (QuietV w (.bool (x == y && eqS s1 s2 s3 s4 s5 t1 t2 t3 t4 t5))) := by
  cases h0 : (x == y) with
  | false =>
    have hr : (false && eqS s1 s2 s3 s4 s5 t1 t2 t3 t4 t5) = false := rfl
    have hn : (x != y) = true := by rw [bne, h0]; rfl
    rw [hr]
    clear hr
    go_enter Tryd.func60, Tryd.ntmps60
    go_wp2_with fail
    go_quiet (fail)
    go_wp2
    go_ret
    exact ⟨rfl, _, rfl⟩
  | true =>
    cases h1 : (s1.toList == t1.toList) with
    | false =>
      have hr : (true && eqS s1 s2 s3 s4 s5 t1 t2 t3 t4 t5) = false := by unfold eqS; rw [h1]; simp
      rw [hr]
      clear hr
      go_enter Tryd.func60, Tryd.ntmps60
      go_wp2_with fail
      go_quiet (fail)
      go_wp2
      go_ret
      exact ⟨rfl, _, rfl⟩
    | true =>
      cases h2 : (s2.toList == t2.toList) with
      | false =>
        have hr : (true && eqS s1 s2 s3 s4 s5 t1 t2 t3 t4 t5) = false := by unfold eqS; rw [h1, h2]; simp
        rw [hr]
        clear hr
        go_enter Tryd.func60, Tryd.ntmps60
        go_wp2_with fail
        go_quiet (fail)
        go_wp2
        go_ret
        exact ⟨rfl, _, rfl⟩
      | true =>
        cases h3 : (s3.toList == t3.toList) with
        | false =>
          have hr : (true && eqS s1 s2 s3 s4 s5 t1 t2 t3 t4 t5) = false := by unfold eqS; rw [h1, h2, h3]; simp
          rw [hr]
          clear hr
          go_enter Tryd.func60, Tryd.ntmps60
          go_wp2_with fail
          go_quiet (fail)
          go_wp2
          go_ret
          exact ⟨rfl, _, rfl⟩
        | true =>
          cases h4 : (s4.toList == t4.toList) with
          | false =>
            have hr : (true && eqS s1 s2 s3 s4 s5 t1 t2 t3 t4 t5) = false := by unfold eqS; rw [h1, h2, h3, h4]; simp
            rw [hr]
            clear hr
            go_enter Tryd.func60, Tryd.ntmps60
            go_wp2_with fail
            go_quiet (fail)
            go_wp2
            go_ret
            exact ⟨rfl, _, rfl⟩
          | true =>
            cases h5 : (s5.toList == t5.toList) with
            | false =>
              have hr : (true && eqS s1 s2 s3 s4 s5 t1 t2 t3 t4 t5) = false := by unfold eqS; rw [h1, h2, h3, h4, h5]; simp
              rw [hr]
              clear hr
              go_enter Tryd.func60, Tryd.ntmps60
              go_wp2_with fail
              go_quiet (fail)
              go_wp2
              go_ret
              exact ⟨rfl, _, rfl⟩
            | true =>
              have hr : (true && eqS s1 s2 s3 s4 s5 t1 t2 t3 t4 t5) = true := by unfold eqS; rw [h1, h2, h3, h4, h5]; rfl
              rw [hr]
              clear hr
              go_enter Tryd.func60, Tryd.ntmps60
              go_wp2_with fail
              go_quiet (fail)
              go_wp2
              go_ret
              exact ⟨rfl, _, rfl⟩
end Go.Proofs.YtfnkmgipjemkdaaDoor
