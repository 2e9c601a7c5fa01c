/- Unquote: a call. -/
import Derived.Test.YtinjhnnpbejccaaGreatDoorG19
import Derived.Test.YtinjhnnpbejccaaGreatDoorG30
import Derived.Test.YtinjhnnpbejccaaGreatDoorG27
import Derived.BigQuiet
import Derived.Test.YtinjhnnpbejccaaGreatDoorG21
import Derived.Laws.EntriesVeiled
namespace Go.Proofs.YtinjhnnpbejccaaGreatDoor
open Go Go.RowKit
set_option linter.unusedVariables false
set_option maxHeartbeats 32000000
set_option maxRecDepth 100000
structure MkU (B : Nat) (S0 : Nat → Prop) (wr : World) (l : List Tm) (v : Value) (xs : List (List Value)) : Prop where
 len : xs.length = l.length
 own : wr.ownsRow B 35 11 v l.length xs.flatten
 tms : ∀ i (hi : i < l.length) (hx : i < xs.length), TmAt wr (fun b => (S0 b ∨ B ≤ b) ∧ b < wr.heap.size ∧ v.ownBlock ≠ some b) l[i] xs[i]
theorem MkU.start (B : Nat) (S0 : Nat → Prop) (W : World) : MkU B S0 W [] (.slice none 0 0) [] := ⟨rfl, ⟨rfl, .inl ⟨rfl, rfl⟩⟩, fun i hi => by simp at hi⟩
theorem MkU.keep {B gu : Nat} {S0 : Nat → Prop} {wo w3 : World} {l : List Tm} {v : Value} {xs : List (List Value)} (h : MkU B S0 wo l v xs) (hk : KpU gu wo w3) (hg : gu < B) (hgS : ¬ S0 gu) : MkU B S0 w3 l v xs := by
 have hown := own_lt h.own
 have hne : ∀ b, (S0 b ∨ B ≤ b) → b ≠ gu := fun b hb e => by
  subst e
  rcases hb with h0 | h0
  · exact hgS h0
  · omega
 refine ⟨h.len, own_keep h.own fun g hg' => hk.block g (hown g hg').2 (hne g (.inr (hown g hg').1)), fun i hi hx => ?_⟩
 exact TmAt.keep (fun b hb => ⟨hb.1, Nat.lt_of_lt_of_le hb.2.1 hk.size, hb.2.2⟩) (fun b hb => hk.block b hb.2.1 (hne b hb.1)) _ _ (h.tms i hi hx)
theorem MkU.snoc {B : Nat} {S0 : Nat → Prop} {w3 w4 : World} {l : List Tm} {v v' : Value} {xs : List (List Value)} (h : MkU B S0 w3 l v xs) {t : Tm} {cs : List Value}
 (hp : TmAt w3 (fun b => (S0 b ∨ B ≤ b) ∧ b < w3.heap.size ∧ v.ownBlock ≠ some b) t cs) (h4 : w4.ownsRow B 35 11 v' (l.length + 1) (xs.flatten ++ cs)) (hg : w3.grownBy w4 v.ownBlock) (hat : v'.ownBlock = v.ownBlock ∨ v'.ownBlock = some w3.heap.size) :
 MkU B S0 w4 (l ++ [t]) v' (xs ++ [cs]) := by
 have h34 := hg.size
 have blk : ∀ b, b < w3.heap.size → v.ownBlock ≠ some b → w4.heap[b]? = w3.heap[b]? := fun b hb' hne => hg.block b hb' (fun e => hne e.symm)
 have hne' : ∀ b, b < w3.heap.size → v.ownBlock ≠ some b → v'.ownBlock ≠ some b := fun b hb' hne e => by
  rcases hat with h0 | h0
  · exact hne (h0.symm.trans e)
  · rw [h0] at e
    have : w3.heap.size = b := by injection e
    omega
 refine ⟨by simp [h.len], by rw [List.flatten_append]; simpa using h4, fun i hi hx => ?_⟩
 by_cases hil : i < l.length
 · have hix : i < xs.length := by rw [h.len]; exact hil
   rw [List.getElem_append_left hil, List.getElem_append_left hix]
   exact TmAt.keep (fun b hb' => ⟨hb'.1, by omega, hne' b hb'.2.1 hb'.2.2⟩) (fun b hb' => blk b hb'.2.1 hb'.2.2) _ _ (h.tms i hil hix)
 · have hie : i = l.length := by simp at hi; omega
   subst hie
   have e2 : (xs ++ [cs])[l.length] = cs := by simp [← h.len]
   have e1 : (l ++ [t])[l.length] = t := by simp
   rw [e1, e2]
   exact TmAt.keep (fun b hb' => ⟨hb'.1, by omega, hne' b hb'.2.1 hb'.2.2⟩) (fun b hb' => blk b hb'.2.1 hb'.2.2) _ _ hp
theorem MkU.slice {B : Nat} {S0 : Nat → Prop} {wr : World} {l : List Tm} {v : Value} {xs : List (List Value)} (h : MkU B S0 wr l v xs) : TsV wr (fun b => S0 b ∨ (B ≤ b ∧ b < wr.heap.size)) l v := by
 have ho := own_lt h.own
 have h11 : ∀ x ∈ xs, x.length = 11 := fun x hx => by
  obtain ⟨i, hi, rfl⟩ := List.getElem_of_mem hx
  exact (h.tms i (by rw [← h.len]; exact hi) hi).length
 rcases h.own.2 with ⟨rfl, e⟩ | ⟨g, cap, cur, rfl, hb, hh, hn, _, hcs, hcur⟩
 · exact ⟨none, 0, by rw [e], by omega, fun h0 => by omega⟩
 · refine ⟨_, cap, rfl, hn, fun _ => ⟨g, 0, rfl, ⟨.inr (ho g rfl), _, _, hh⟩, TmsAt.of l 0 fun i hi => ?_⟩⟩
   have hix : i < xs.length := by rw [h.len]; exact hi
   refine ⟨xs[i], (h.tms i hi hix).more fun b hb' => ?_, fun j u hj => ?_⟩
   · rcases hb'.1 with h0 | h0
     · exact .inl h0
     · exact .inr ⟨h0, hb'.2.1⟩
   · have hf := flat11 xs i j u hix h11 hj
     rw [Nat.zero_add, cell_of_row _ _ _ _ _ _ hh]
     rw [← hcur] at hf
     rw [List.getElem?_take] at hf
     split at hf
     · simpa using hf
     · cases hf
theorem KpU.grown {gu : Nat} {w w3 w4 : World} {ob : Option Nat} (h : KpU gu w w3) (hg : w3.grownBy w4 ob) (ho : ∀ k, ob = some k → w.heap.size ≤ k) : KpU gu w w4 := by
 have hb : Below w.heap.size w3 w4 := (Below.refl _ w3).grown hg h.size (fun k hk => ho k hk)
 exact ⟨hb.os.trans h.os, hb.tape.trans h.tape, hb.output.trans h.output, Nat.le_trans h.size hb.size, fun b hlt hne => (hb.block b hlt).trans (h.block b hlt hne)⟩
theorem KpU.row {gu g : Nat} {w w' : World} (h : KpU gu w w') (hg : w.heap.size ≤ g) (cs : Array Value) : KpU gu w (w'.setRow g cs) := ⟨h.os, h.tape, h.output, by rw [size_setRow]; exact h.size, fun b hb hne => (setRow_other w' g b cs (by omega)).trans (h.block b hb hne)⟩
theorem UB.other {w : World} {gu g : Nat} {L : Int} (h : UB w gu L) (hne : gu ≠ g) {cs : Array Value} : UB (w.setRow g cs) gu L := (setRow_other w g gu cs hne).trans h
theorem KpU.cell {gu : Nat} {w w' : World} (h : KpU gu w w') {b k : Nat} (hb : b < w.heap.size) (hne : b ≠ gu) : w'.cell? ⟨b, k, none⟩ = w.cell? ⟨b, k, none⟩ := World.cell?_of_block (a := ⟨b, k, none⟩) (h.block b hb hne)
def RetUq (w : World) (S : Nat → Prop) (gu : Nat) (t : Tm) (n : Nat) (M : Int) (e : Ending) (w' : World) : Prop := ∃ cs, e = .returned (vTm cs) ∧ TmAt w' (Upto w w' S) t cs ∧ UB w' gu (M - (n : Int)) ∧ KpU gu w w'
theorem unqCall (s : Nm) (l : List Tm) (A : Option Addr) (c gu : Nat) (L : Int) (w : World) (S : Nat → Prop) (hS : In S w) (hgS : ¬ S gu) (hgw : gu < w.heap.size) (hl8 : l.length ≤ 8) (hc : l.length ≤ c)
 (hA : 0 < l.length → ∃ b o, A = some ⟨b, o, none⟩ ∧ S b ∧ ObsAt w S b o (l.map quO)) (hU : UB w gu L) (hL : (Tm.qns l : Int) ≤ L) (hL2 : L ≤ 3000)
 (ke : ∀ x ∈ l, ∀ (W : World) (p : Value) (M : Int), In S W → gu < W.heap.size → Pair W S (quO x) p → UB W gu M → (x.qn : Int) ≤ M → M ≤ 3000 → Calls Tryz.prog 90 #[.pointer (some ⟨gu, 0, none⟩), vO (quO x) p] W (RetUq W S gu x x.qn M)) :
 Calls Tryz.prog 116 #[.pointer (some ⟨gu, 0, none⟩), .agg #[.string s.1, .string s.2], .slice A l.length c] w (RetUq w S gu (.app s l) (Tm.qns l) L) := by
 have hB : Below w.heap.size w ((w.alloc (.cells #[.string s.1, .string s.2] 23)).alloc (.cells #[.int .i64 0, .string ⟨#[]⟩, .string ⟨#[]⟩, .int .i64 0, .string ⟨#[]⟩, .string ⟨#[]⟩, .string ⟨#[]⟩, .string ⟨#[]⟩, .string ⟨#[]⟩, .slice none 0 0, .slice none 0 0] 35)) := Below.alloc (Below.alloc (Below.refl _ _) (Nat.le_refl _) _) (by simp) _
 have r4 : ((w.alloc (.cells #[.string s.1, .string s.2] 23)).alloc (.cells #[.int .i64 0, .string ⟨#[]⟩, .string ⟨#[]⟩, .int .i64 0, .string ⟨#[]⟩, .string ⟨#[]⟩, .string ⟨#[]⟩, .string ⟨#[]⟩, .string ⟨#[]⟩, .slice none 0 0, .slice none 0 0] 35)).heap[w.heap.size]? = some (.cells #[.string s.1, .string s.2] 23 (0, 0)) := (Below.heap_alloc _ _ _ (by simp)).trans (heap_alloc_new w _)
 have B6 : TB ((w.alloc (.cells #[.string s.1, .string s.2] 23)).alloc (.cells #[.int .i64 0, .string ⟨#[]⟩, .string ⟨#[]⟩, .int .i64 0, .string ⟨#[]⟩, .string ⟨#[]⟩, .string ⟨#[]⟩, .string ⟨#[]⟩, .string ⟨#[]⟩, .slice none 0 0, .slice none 0 0] 35)) (w.heap.size + 1) zT := heap_new_at (by simp)
 have hz : ((w.alloc (.cells #[.string s.1, .string s.2] 23)).alloc (.cells #[.int .i64 0, .string ⟨#[]⟩, .string ⟨#[]⟩, .int .i64 0, .string ⟨#[]⟩, .string ⟨#[]⟩, .string ⟨#[]⟩, .string ⟨#[]⟩, .string ⟨#[]⟩, .slice none 0 0, .slice none 0 0] 35)).heap.size = w.heap.size + 2 := by simp
 have HA := hI hA
 have HS := hI hS
 have HGS : Hid (¬ S gu ∧ gu < w.heap.size) := ⟨hgS, hgw⟩
 have KE := hI ke
 have HLL : Hid ((Tm.qns l : Int) ≤ L ∧ L ≤ 3000) := ⟨hL, hL2⟩
 obtain ⟨N, hN⟩ : ∃ N, l.length = N := ⟨_, rfl⟩
 have HN := hI hN
 rw [hN] at hl8 hc ⊢
 obtain ⟨i0, hi0, hz0, hz1, hz2⟩ := infoT
 have HI0 := hI hi0
 have HZ0 := hI hz0
 have HZ1 := hI hz1
 have HZ2 := hI hz2
 have h0 : Hid (∃ xs, MkU (w.heap.size + 2) S ((w.alloc (.cells #[.string s.1, .string s.2] 23)).alloc (.cells #[.int .i64 0, .string ⟨#[]⟩, .string ⟨#[]⟩, .int .i64 0, .string ⟨#[]⟩, .string ⟨#[]⟩, .string ⟨#[]⟩, .string ⟨#[]⟩, .string ⟨#[]⟩, .slice none 0 0, .slice none 0 0] 35)) ((l.take 0)) (.slice none 0 0) xs ∧ UB ((w.alloc (.cells #[.string s.1, .string s.2] 23)).alloc (.cells #[.int .i64 0, .string ⟨#[]⟩, .string ⟨#[]⟩, .int .i64 0, .string ⟨#[]⟩, .string ⟨#[]⟩, .string ⟨#[]⟩, .string ⟨#[]⟩, .string ⟨#[]⟩, .slice none 0 0, .slice none 0 0] 35)) gu (L - (Tm.qns l : Int) + (Tm.qns (l.drop 0) : Int)) ∧ KpU gu w ((w.alloc (.cells #[.string s.1, .string s.2] 23)).alloc (.cells #[.int .i64 0, .string ⟨#[]⟩, .string ⟨#[]⟩, .int .i64 0, .string ⟨#[]⟩, .string ⟨#[]⟩, .string ⟨#[]⟩, .string ⟨#[]⟩, .string ⟨#[]⟩, .slice none 0 0, .slice none 0 0] 35)) ∧ ((w.alloc (.cells #[.string s.1, .string s.2] 23)).alloc (.cells #[.int .i64 0, .string ⟨#[]⟩, .string ⟨#[]⟩, .int .i64 0, .string ⟨#[]⟩, .string ⟨#[]⟩, .string ⟨#[]⟩, .string ⟨#[]⟩, .string ⟨#[]⟩, .slice none 0 0, .slice none 0 0] 35)).heap[w.heap.size]? = some (.cells #[.string s.1, .string s.2] 23 (0, 0)) ∧ TB ((w.alloc (.cells #[.string s.1, .string s.2] 23)).alloc (.cells #[.int .i64 0, .string ⟨#[]⟩, .string ⟨#[]⟩, .int .i64 0, .string ⟨#[]⟩, .string ⟨#[]⟩, .string ⟨#[]⟩, .string ⟨#[]⟩, .string ⟨#[]⟩, .slice none 0 0, .slice none 0 0] 35)) (w.heap.size + 1) zT) := ⟨[], MkU.start _ S _, by
  have e : L - (Tm.qns l : Int) + (Tm.qns (l.drop 0) : Int) = L := by rw [List.drop_zero]; omega
  rw [e]; exact hU.keep hB, below_kpU gu hB, r4, B6⟩
 have hN8 : ¬ (8 : Int) < (N : Int) := by omega
 clear hB r4 B6 hz hA hS hgS hgw ke hL hL2 hN hi0 hz0 hz1 hz2 hU
 go_enter Tryz.func116, Tryz.ntmps116
 go_upto_region 1 with fail
 generalize ((w.alloc (.cells #[.string s.1, .string s.2] 23)).alloc (.cells #[.int .i64 0, .string ⟨#[]⟩, .string ⟨#[]⟩, .int .i64 0, .string ⟨#[]⟩, .string ⟨#[]⟩, .string ⟨#[]⟩, .string ⟨#[]⟩, .string ⟨#[]⟩, .slice none 0 0, .slice none 0 0] 35)) = Y at *
 go_wp2_with fail
 go_loopw [7, 16] (fun u v wr => ∃ (i : Nat) (sl : Value), sl = u ∧ i ≤ N ∧ v = .int .i64 (i : Int) ∧ Hid (∃ xs, MkU (w.heap.size + 2) S wr (l.take i) sl xs ∧ UB wr gu (L - (Tm.qns l : Int) + (Tm.qns (l.drop i) : Int)) ∧ KpU gu w wr ∧ wr.heap[w.heap.size]? = some (.cells #[.string s.1, .string s.2] 23 (0, 0)) ∧ TB wr (w.heap.size + 1) zT)) (fun _ v _ => N - (intOf v).toNat)
 case atStart => exact ⟨0, _, rfl, Nat.zero_le _, rfl, h0⟩
 case round =>
  clear h0
  obtain ⟨i, sl, rfl, hiN, rfl, hE⟩ := hrel
  obtain ⟨wo, rfl⟩ : ∃ wo : World, wo = wr := ⟨_, rfl⟩
  obtain ⟨xs, hM, hUo, hK, h4, h6⟩ := hE.out
  have hws := hK.size
  have HSY := hI hK.size
  have hgs6 := h6.lt
  by_cases hlt : i < N
  · have hil : i < l.length := by rw [HN.out]; exact hlt
    obtain ⟨b, o, rfl, hSb, hobs⟩ := HA.out (by omega)
    obtain ⟨p, hp, hcells⟩ := hobs.get (i := i) (by rw [List.length_map]; exact hil)
    rw [List.getElem_map] at hp hcells
    have hbw := HS.out b hSb
    have hbg : b ≠ gu := fun e => HGS.out.1 (e ▸ hSb)
    have hpo : Pair wo S (quO l[i]) p := hp.keep (fun _ h => h) (fun q hq => hK.block q (HS.out q hq) (fun e => HGS.out.1 (e ▸ hq)))
    obtain ⟨a0, a1, a2, a3, a4, a5, ec⟩ := cells7 (quO l[i]) p
    have kc : ∀ j u, [a0, a1, a2, a3, a4, a5, p][j]? = some u → wo.cell? ⟨b, o + i * 7 + j, none⟩ = some u := fun j u hj => (hK.cell hbw hbg).trans (hcells j u (by rw [ec]; exact hj))
    have k0 : wo.cell? ⟨b, o + i * 7, none⟩ = some a0 := kc 0 _ rfl
    have k1 := kc 1 _ rfl
    have k2 := kc 2 _ rfl
    have k3 := kc 3 _ rfl
    have k4 := kc 4 _ rfl
    have k5 := kc 5 _ rfl
    have k6 := kc 6 _ rfl
    have hdr := Tm.qns_drop hil
    have hqd : (Tm.qns (l.drop (i + 1)) : Int) ≥ 0 := by omega
    have hqt : Tm.qns (l.drop i) ≤ Tm.qns l := by
     have : ∀ (l : List Tm) (i : Nat), Tm.qns (l.drop i) ≤ Tm.qns l := by
      intro l
      induction l with
      | nil => intro i; simp [Tm.qns]
      | cons t l ih =>
       intro i
       cases i with
       | zero => exact Nat.le_refl _
       | succ i =>
        have := ih i
        simp only [List.drop_succ_cons, Tm.qns]
        omega
     exact this l i
    have HTK : Hid (l.take (i + 1) = l.take i ++ [l[i]]) := List.take_succ_eq_append_getElem hil
    have hm := List.getElem_mem hil
    have hwv : Below wo.heap.size wo ((wo.alloc (.cells #[.int .i64 0, .string ⟨#[]⟩, .string ⟨#[]⟩, .string ⟨#[]⟩, .string ⟨#[]⟩, .string ⟨#[]⟩, .slice none 0 0] 33)).setRow wo.heap.size #[a0, a1, a2, a3, a4, a5, p]) := below_setRowO (below_alT wo _) (Nat.le_refl _) _
    have hLL := HLL.out
    have CALL : Hid (Calls Tryz.prog 90 #[.pointer (some ⟨gu, 0, none⟩), vO (quO l[i]) p] ((wo.alloc (.cells #[.int .i64 0, .string ⟨#[]⟩, .string ⟨#[]⟩, .string ⟨#[]⟩, .string ⟨#[]⟩, .string ⟨#[]⟩, .slice none 0 0] 33)).setRow wo.heap.size #[a0, a1, a2, a3, a4, a5, p]) (RetUq ((wo.alloc (.cells #[.int .i64 0, .string ⟨#[]⟩, .string ⟨#[]⟩, .string ⟨#[]⟩, .string ⟨#[]⟩, .string ⟨#[]⟩, .slice none 0 0] 33)).setRow wo.heap.size #[a0, a1, a2, a3, a4, a5, p]) S gu l[i] l[i].qn (L - (Tm.qns l : Int) + (Tm.qns (l.drop i) : Int)))) := KE.out l[i] hm ((wo.alloc (.cells #[.int .i64 0, .string ⟨#[]⟩, .string ⟨#[]⟩, .string ⟨#[]⟩, .string ⟨#[]⟩, .string ⟨#[]⟩, .slice none 0 0] 33)).setRow wo.heap.size #[a0, a1, a2, a3, a4, a5, p]) p _ (HS.out.later (Nat.le_trans hK.size hwv.size)) (by have := HGS.out.2; have := hwv.size; omega) (hpo.below (HS.out.later hK.size) hwv) (hUo.keep hwv) (by omega) (by omega)
    have BX : Hid (Bx ((wo.alloc (.cells #[.int .i64 0, .string ⟨#[]⟩, .string ⟨#[]⟩, .string ⟨#[]⟩, .string ⟨#[]⟩, .string ⟨#[]⟩, .slice none 0 0] 33)).setRow wo.heap.size #[a0, a1, a2, a3, a4, a5, p]) wo.heap.size (cellsO (quO l[i]) p).toArray) := (show Bx _ _ _ by rw [ec]; exact setRow_heap _ _ _ _ _ _ (heap_alloc_new wo _))
    have HONE : Hid ((#[a0, a1, a2, a3, a4, a5, p] : Array Value).all (·.oneCell') = true) := (show _ = _ by have h := hp.one; rw [ec] at h; exact h)
    have HMK := hI (hM.keep (below_kpU gu hwv) (by have := HGS.out.2; omega) HGS.out.1)
    have HK := hI (hK.trans (below_kpU gu hwv))
    have H4 : Hid (((wo.alloc (.cells #[.int .i64 0, .string ⟨#[]⟩, .string ⟨#[]⟩, .string ⟨#[]⟩, .string ⟨#[]⟩, .string ⟨#[]⟩, .slice none 0 0] 33)).setRow wo.heap.size #[a0, a1, a2, a3, a4, a5, p]).heap[w.heap.size]? = some (.cells #[.string s.1, .string s.2] 23 (0, 0))) := (hwv.block _ (by omega)).trans h4
    have H6 := hI (h6.keep hwv)
    have HQN : Hid (L - (Tm.qns l : Int) + (Tm.qns (l.drop i) : Int) - (l[i].qn : Int) = L - (Tm.qns l : Int) + (Tm.qns (l.drop (i + 1)) : Int)) := (show _ = _ by omega)
    have HWS : Hid (w.heap.size + 2 ≤ ((wo.alloc (.cells #[.int .i64 0, .string ⟨#[]⟩, .string ⟨#[]⟩, .string ⟨#[]⟩, .string ⟨#[]⟩, .string ⟨#[]⟩, .slice none 0 0] 33)).setRow wo.heap.size #[a0, a1, a2, a3, a4, a5, p]).heap.size) := (show _ ≤ _ by have := hwv.size; omega)
    have HLN : Hid ((l.take i).length = i) := (show _ = _ by rw [List.length_take]; omega)
    clear hE hM hUo hK h4 h6 hp hcells hobs hpo ec kc hdr hqd hqt hm hwv hws hgs6 hLL
    generalize L - (Tm.qns l : Int) + (Tm.qns (l.drop i) : Int) = M at *
    generalize l[i] = x at *
    go_wp2_with (first | ((with_reducible refine storeO rfl (.tmp 9) (.tmp 19) rfl _ _ rfl rfl _ _ (heap_alloc_new wo _) rfl rfl HONE.out ?_)) | (with_reducible refine lG (.tmp 9) BX.out ?_))
    generalize ((wo.alloc (.cells #[.int .i64 0, .string ⟨#[]⟩, .string ⟨#[]⟩, .string ⟨#[]⟩, .string ⟨#[]⟩, .string ⟨#[]⟩, .slice none 0 0] 33)).setRow wo.heap.size #[a0, a1, a2, a3, a4, a5, p]) = V at *
    refine CALL.out.mono ?_
    rintro e w4 ⟨cs4, rfl, ht4, hu4, hk4⟩
    have O4 := hI ht4.o11
    have hM4 := HMK.out.keep hk4 (by have := HGS.out.2; omega) HGS.out.1
    have hown := own_lt HMK.out.own
    have hg4 := HGS.out
    have hw4 := HWS.out
    have hk4s := hk4.size
    have hkv := HK.out.size
    have ht5 : TmAt w4 (fun b => (S b ∨ w.heap.size + 2 ≤ b) ∧ b < w4.heap.size ∧ sl.ownBlock ≠ some b) x cs4 := ht4.more (fun b hb => by
     rcases hb with h0 | h0
     · have := HS.out b h0
       exact ⟨.inl h0, by omega, fun e => by have := (hown b e).1; omega⟩
     · exact ⟨.inr (by omega), h0.2, fun e => by have := (hown b e).2; omega⟩)
    obtain ⟨u0, u1, u2, u3, u4, u5, u6, A7, c7, rfl, _, _⟩ := ht4.eleven
    have hba : Below w4.heap.size w4 (w4.alloc (.cells #[.int .i64 x.kd, .string x.nm.1, .string x.nm.2, u0, u1, u2, u3, u4, u5, u6, .slice A7 x.args.length c7] 35)) := below_alT w4 _
    have hM5 := hM4.keep (below_kpU gu hba) (by omega) hg4.1
    have ht6 : TmAt (w4.alloc (.cells #[.int .i64 x.kd, .string x.nm.1, .string x.nm.2, u0, u1, u2, u3, u4, u5, u6, .slice A7 x.args.length c7] 35)) (fun b => (S b ∨ w.heap.size + 2 ≤ b) ∧ b < (w4.alloc (.cells #[.int .i64 x.kd, .string x.nm.1, .string x.nm.2, u0, u1, u2, u3, u4, u5, u6, .slice A7 x.args.length c7] 35)).heap.size ∧ sl.ownBlock ≠ some b) x [.int .i64 x.kd, .string x.nm.1, .string x.nm.2, u0, u1, u2, u3, u4, u5, u6, .slice A7 x.args.length c7] := TmAt.keep (fun b hb => ⟨hb.1, Nat.lt_of_lt_of_le hb.2.1 hba.size, hb.2.2⟩) (fun b hb => hba.block b hb.2.1) _ _ ht5
    have own5 := hI hM5.own
    rw [HLN.out] at own5
    have hhx := hba.size
    have hg6 := H6.out.lt
    have HSTEP : Hid (∀ v' w5, w5.ownsRow (w.heap.size + 2) 35 11 v' (i + 1) (xs.flatten ++ [.int .i64 x.kd, .string x.nm.1, .string x.nm.2, u0, u1, u2, u3, u4, u5, u6, .slice A7 x.args.length c7]) → (w4.alloc (.cells #[.int .i64 x.kd, .string x.nm.1, .string x.nm.2, u0, u1, u2, u3, u4, u5, u6, .slice A7 x.args.length c7] 35)).grownBy w5 sl.ownBlock → (v'.ownBlock = sl.ownBlock ∨ v'.ownBlock = some (w4.alloc (.cells #[.int .i64 x.kd, .string x.nm.1, .string x.nm.2, u0, u1, u2, u3, u4, u5, u6, .slice A7 x.args.length c7] 35)).heap.size) → ∃ xs', MkU (w.heap.size + 2) S w5 (l.take (i + 1)) v' xs' ∧ UB w5 gu (L - (Tm.qns l : Int) + (Tm.qns (l.drop (i + 1)) : Int)) ∧ KpU gu w w5 ∧ w5.heap[w.heap.size]? = some (.cells #[.string s.1, .string s.2] 23 (0, 0)) ∧ TB w5 (w.heap.size + 1) zT) :=
     (show ∀ _, _ from fun v' w5 h4' hg hat => by
       have hk5 : KpU gu w (w4.alloc (.cells #[.int .i64 x.kd, .string x.nm.1, .string x.nm.2, u0, u1, u2, u3, u4, u5, u6, .slice A7 x.args.length c7] 35)) := (HK.out.trans hk4).trans (below_kpU gu hba)
       have no : ∀ b, b < w.heap.size + 2 → sl.ownBlock ≠ some b := fun b hb e => by have := (hown b e).1; omega
       have hblk : ∀ b, b < w.heap.size + 2 → b ≠ gu → w5.heap[b]? = V.heap[b]? := fun b hb hne => (hg.block b (by omega) (fun e => no b hb e.symm)).trans ((hba.block b (by omega)).trans (hk4.block b (by omega) hne))
       refine ⟨xs ++ [[.int .i64 x.kd, .string x.nm.1, .string x.nm.2, u0, u1, u2, u3, u4, u5, u6, .slice A7 x.args.length c7]], ?_, ?_, ?_, ?_, ?_⟩
       · rw [HTK.out]
         exact hM5.snoc ht6 (by rw [HLN.out]; exact h4') hg hat
       · have hq := HQN.out
         rw [hq] at hu4
         exact (hg.block gu (by omega) (fun e => no gu (by omega) e.symm)).trans (hu4.keep hba)
       · exact hk5.grown hg (fun k hk => by have := (hown k hk).1; omega)
       · exact (hblk _ (by omega) (by omega)).trans H4.out
       · exact (hblk _ (by omega) (by omega)).trans H6.out)
    have hrow : (w4.alloc (.cells #[.int .i64 x.kd, .string x.nm.1, .string x.nm.2, u0, u1, u2, u3, u4, u5, u6, .slice A7 x.args.length c7] 35)).heap[w4.heap.size]? = some (.cells #[.int .i64 x.kd, .string x.nm.1, .string x.nm.2, u0, u1, u2, u3, u4, u5, u6, .slice A7 x.args.length c7] 35 (0, 0)) := heap_alloc_new w4 _
    have HNEWS := hI (news_at hrow)
    have hs3 : w.heap.size + 2 ≤ (w4.alloc (.cells #[.int .i64 x.kd, .string x.nm.1, .string x.nm.2, u0, u1, u2, u3, u4, u5, u6, .slice A7 x.args.length c7] 35)).heap.size := by omega
    clear ht4 hu4 hk4 CALL hM4 hown hg4 hw4 hk4s ht5 hba hM5 ht6 hhx hg6 hrow BX HMK HK H4 H6 HQN HWS HTK HONE hkv k0 k1 k2 k3 k4 k5 k6
    unfold vTm
    go_wp2_with (at_builtin; refine wpList_append_own_at _ rfl (.tmp 20) (.tmp 24) _ rfl (w.heap.size + 2) 35 i0 _ 11 176 Tryz.underlying30 HI0.out HZ0.out HZ1.out HZ2.out rfl (by omega) sl i xs.flatten rfl own5.out ⟨w4.heap.size, 0, none⟩ 1 1 [.int .i64 x.kd, .string x.nm.1, .string x.nm.2, u0, u1, u2, u3, u4, u5, u6, .slice A7 x.args.length c7] rfl rfl HNEWS.out O4.out.2 (by simp only [maxLen]; omega) (by omega) hs3 ?_; intro v4 w5 hown4 hg4 hnil4 hat4; have hst := hI (HSTEP.out v4 w5 hown4 hg4 hat4); clear hown4 hg4 hnil4 hat4)
    go_roundw
    case rel => exact ⟨i + 1, _, rfl, by omega, by go_num, hst⟩
    case measure => simp [intOf]; omega
  · have hiN2 : i = N := by omega
    have hn2 : ¬ (i : Int) < N := by omega
    have hil : i = l.length := by rw [HN.out]; exact hiN2
    have hT := hM.slice
    rw [hil, List.take_length] at hT
    have hU2 : UB wo gu (L - (Tm.qns l : Int)) := by
     have h := hUo
     rw [hil, List.drop_length] at h
     simpa [Tm.qns] using h
    have hIn : In (fun b => S b ∨ (w.heap.size + 2 ≤ b ∧ b < wo.heap.size)) wo := fun b hb => by
     rcases hb with h0 | h0
     · have := HS.out b h0; omega
     · exact h0.2
    have APP := hI (appP s l sl wo _ hIn hT (by rw [HN.out]; omega))
    have hc0 : wo.cell? ⟨w.heap.size, 0, none⟩ = some (.string s.1) := by rw [cell_of_row _ _ _ _ _ _ h4]; rfl
    have hc1 : wo.cell? ⟨w.heap.size, 1, none⟩ = some (.string s.2) := by rw [cell_of_row _ _ _ _ _ _ h4]; rfl
    have HU2 := hI hU2
    have HK := hI hK
    have H6 := hI h6
    clear hE hM hUo hK h4 h6 hT hU2 hIn HN
    go_wp2_with fail
    go_wp2_with fail
    refine APP.out.mono ?_
    rintro e w4 ⟨cs4, rfl, ht4, hb4⟩
    have O4 := hI ht4.o11
    have h64 := H6.out.keep hb4
    have hg4 := HGS.out
    have hu4 := HU2.out.keep hb4
    have hk4 := HK.out.trans (below_kpU gu hb4)
    have H4 : Hid (TmAt w4 (Upto w w4 S) (.app s l) cs4) := ht4.more fun q hq => by
     rcases hq with (h0 | h0) | h0
     · exact .inl h0
     · exact .inr ⟨by omega, by have := hb4.size; omega⟩
     · exact .inr ⟨by omega, h0.2⟩
    clear ht4 hb4 APP
    go_wp2_with ((with_reducible refine storeTb (cs := cs4) (.tmp 6) (.tmp 29) ?_ ?_ ?_ ?_ (hI h64).out ?_ ?_ ?_ ?_); rfl; rfl; rfl; rfl; rfl; exact O4.out.1; exact O4.out.2)
    exact retTb rfl rfl (h64.set _) O4.out.1 ⟨_, rfl, TmAt.boxed H4.out h64.nb _, hu4.other (by omega), hk4.row (by omega) _⟩
theorem unqVar (s : Nm) (gu : Nat) (p : Value) (L : Int) (w : World) (S : Nat → Prop) (hS : In S w) (hgS : ¬ S gu) (hgw : gu < w.heap.size) (hU : UB w gu L) (h1 : 1 ≤ L) (h2 : L ≤ 3000) :
 Calls Tryz.prog 90 #[.pointer (some ⟨gu, 0, none⟩), .agg #[.int .i64 2, .string ⟨#[]⟩, .string ⟨#[]⟩, .string s.1, .string s.2, .string ⟨#[]⟩, p]] w (RetUq w S gu (.var s) 1 L) := by
 have hB2 : Below w.heap.size w ((w.alloc (.cells #[.int .i64 2, .string ⟨#[]⟩, .string ⟨#[]⟩, .string s.1, .string s.2, .string ⟨#[]⟩, p] 33)).alloc (.cells #[.int .i64 0, .string ⟨#[]⟩, .string ⟨#[]⟩, .int .i64 0, .string ⟨#[]⟩, .string ⟨#[]⟩, .string ⟨#[]⟩, .string ⟨#[]⟩, .string ⟨#[]⟩, .slice none 0 0, .slice none 0 0] 35)) := Below.alloc (Below.alloc (Below.refl _ _) (Nat.le_refl _) _) (by simp) _
 have r3 : ((w.alloc (.cells #[.int .i64 2, .string ⟨#[]⟩, .string ⟨#[]⟩, .string s.1, .string s.2, .string ⟨#[]⟩, p] 33)).alloc (.cells #[.int .i64 0, .string ⟨#[]⟩, .string ⟨#[]⟩, .int .i64 0, .string ⟨#[]⟩, .string ⟨#[]⟩, .string ⟨#[]⟩, .string ⟨#[]⟩, .string ⟨#[]⟩, .slice none 0 0, .slice none 0 0] 35)).heap[w.heap.size]? = some (.cells #[.int .i64 2, .string ⟨#[]⟩, .string ⟨#[]⟩, .string s.1, .string s.2, .string ⟨#[]⟩, p] 33 (0, 0)) := (Below.heap_alloc _ _ _ (by simp)).trans (heap_alloc_new w _)
 have r4 : TB ((w.alloc (.cells #[.int .i64 2, .string ⟨#[]⟩, .string ⟨#[]⟩, .string s.1, .string s.2, .string ⟨#[]⟩, p] 33)).alloc (.cells #[.int .i64 0, .string ⟨#[]⟩, .string ⟨#[]⟩, .int .i64 0, .string ⟨#[]⟩, .string ⟨#[]⟩, .string ⟨#[]⟩, .string ⟨#[]⟩, .string ⟨#[]⟩, .slice none 0 0, .slice none 0 0] 35)) (w.heap.size + 1) zT := heap_new_at (by simp)
 have hz : ((w.alloc (.cells #[.int .i64 2, .string ⟨#[]⟩, .string ⟨#[]⟩, .string s.1, .string s.2, .string ⟨#[]⟩, p] 33)).alloc (.cells #[.int .i64 0, .string ⟨#[]⟩, .string ⟨#[]⟩, .int .i64 0, .string ⟨#[]⟩, .string ⟨#[]⟩, .string ⟨#[]⟩, .string ⟨#[]⟩, .string ⟨#[]⟩, .slice none 0 0, .slice none 0 0] 35)).heap.size = w.heap.size + 2 := by simp
 have U2 : UB ((w.alloc (.cells #[.int .i64 2, .string ⟨#[]⟩, .string ⟨#[]⟩, .string s.1, .string s.2, .string ⟨#[]⟩, p] 33)).alloc (.cells #[.int .i64 0, .string ⟨#[]⟩, .string ⟨#[]⟩, .int .i64 0, .string ⟨#[]⟩, .string ⟨#[]⟩, .string ⟨#[]⟩, .string ⟨#[]⟩, .string ⟨#[]⟩, .slice none 0 0, .slice none 0 0] 35)) gu L := hU.keep hB2
 have c0 := U2.cell
 have f0 := U2.free
 have YU := hI (U2.set (M := L - 1))
 have KY : Hid (KpU gu w (((w.alloc (.cells #[.int .i64 2, .string ⟨#[]⟩, .string ⟨#[]⟩, .string s.1, .string s.2, .string ⟨#[]⟩, p] 33)).alloc (.cells #[.int .i64 0, .string ⟨#[]⟩, .string ⟨#[]⟩, .int .i64 0, .string ⟨#[]⟩, .string ⟨#[]⟩, .string ⟨#[]⟩, .string ⟨#[]⟩, .string ⟨#[]⟩, .slice none 0 0, .slice none 0 0] 35)).setCell ⟨gu, 0, none⟩ (.int .i64 (L - 1)))) := (below_kpU gu hB2).trans (KpU.set gu _ _)
 have ho : ∀ q, q ≠ gu → (((w.alloc (.cells #[.int .i64 2, .string ⟨#[]⟩, .string ⟨#[]⟩, .string s.1, .string s.2, .string ⟨#[]⟩, p] 33)).alloc (.cells #[.int .i64 0, .string ⟨#[]⟩, .string ⟨#[]⟩, .int .i64 0, .string ⟨#[]⟩, .string ⟨#[]⟩, .string ⟨#[]⟩, .string ⟨#[]⟩, .string ⟨#[]⟩, .slice none 0 0, .slice none 0 0] 35)).setCell ⟨gu, 0, none⟩ (.int .i64 (L - 1))).heap[q]? = ((w.alloc (.cells #[.int .i64 2, .string ⟨#[]⟩, .string ⟨#[]⟩, .string s.1, .string s.2, .string ⟨#[]⟩, p] 33)).alloc (.cells #[.int .i64 0, .string ⟨#[]⟩, .string ⟨#[]⟩, .int .i64 0, .string ⟨#[]⟩, .string ⟨#[]⟩, .string ⟨#[]⟩, .string ⟨#[]⟩, .string ⟨#[]⟩, .slice none 0 0, .slice none 0 0] 35)).heap[q]? := fun q hq => Below.heap_setCell _ ⟨gu, 0, none⟩ _ q hq
 have B3 : Hid (Bx (((w.alloc (.cells #[.int .i64 2, .string ⟨#[]⟩, .string ⟨#[]⟩, .string s.1, .string s.2, .string ⟨#[]⟩, p] 33)).alloc (.cells #[.int .i64 0, .string ⟨#[]⟩, .string ⟨#[]⟩, .int .i64 0, .string ⟨#[]⟩, .string ⟨#[]⟩, .string ⟨#[]⟩, .string ⟨#[]⟩, .string ⟨#[]⟩, .slice none 0 0, .slice none 0 0] 35)).setCell ⟨gu, 0, none⟩ (.int .i64 (L - 1))) w.heap.size #[.int .i64 2, .string ⟨#[]⟩, .string ⟨#[]⟩, .string s.1, .string s.2, .string ⟨#[]⟩, p]) := (ho _ (by omega)).trans r3
 have B4 : Hid (TB (((w.alloc (.cells #[.int .i64 2, .string ⟨#[]⟩, .string ⟨#[]⟩, .string s.1, .string s.2, .string ⟨#[]⟩, p] 33)).alloc (.cells #[.int .i64 0, .string ⟨#[]⟩, .string ⟨#[]⟩, .int .i64 0, .string ⟨#[]⟩, .string ⟨#[]⟩, .string ⟨#[]⟩, .string ⟨#[]⟩, .string ⟨#[]⟩, .slice none 0 0, .slice none 0 0] 35)).setCell ⟨gu, 0, none⟩ (.int .i64 (L - 1))) (w.heap.size + 1) zT) := (ho _ (by omega)).trans r4
 have HS := hI hS
 have HGS : Hid (¬ S gu ∧ gu < w.heap.size) := ⟨hgS, hgw⟩
 have HZ : Hid ((((w.alloc (.cells #[.int .i64 2, .string ⟨#[]⟩, .string ⟨#[]⟩, .string s.1, .string s.2, .string ⟨#[]⟩, p] 33)).alloc (.cells #[.int .i64 0, .string ⟨#[]⟩, .string ⟨#[]⟩, .int .i64 0, .string ⟨#[]⟩, .string ⟨#[]⟩, .string ⟨#[]⟩, .string ⟨#[]⟩, .string ⟨#[]⟩, .slice none 0 0, .slice none 0 0] 35)).setCell ⟨gu, 0, none⟩ (.int .i64 (L - 1))).heap.size = w.heap.size + 2) := (show _ = _ by rw [← hz]; simp [World.setCell])
 have HLL : Hid (1 ≤ L ∧ L ≤ 3000) := ⟨h1, h2⟩
 have hL0 : ¬ (L - 1 < 0) := by omega
 have hw64 : wrap64 (L - 1) = L - 1 := IntWalk.wrap64_in _ (by omega)
 clear hU hS hgS hgw h2
 go_enter Tryz.func90, Tryz.ntmps90
 go_upto_region 2 with fail
 clear c0 f0 U2 r3 r4 hz ho hB2
 generalize (((w.alloc (.cells #[.int .i64 2, .string ⟨#[]⟩, .string ⟨#[]⟩, .string s.1, .string s.2, .string ⟨#[]⟩, p] 33)).alloc (.cells #[.int .i64 0, .string ⟨#[]⟩, .string ⟨#[]⟩, .int .i64 0, .string ⟨#[]⟩, .string ⟨#[]⟩, .string ⟨#[]⟩, .string ⟨#[]⟩, .string ⟨#[]⟩, .slice none 0 0, .slice none 0 0] 35)).setCell ⟨gu, 0, none⟩ (.int .i64 (L - 1))) = Y at *
 obtain ⟨b0, b1, b2, b3, b4, b5, b6⟩ := B3.out.c
 have ku := YU.out.cell
 go_wp2_with fail
 with_reducible refine (varP s Y S).mono ?_
 rintro e w4 ⟨cs4, rfl, ht4, hb4⟩
 have O4 := hI ht4.o11
 have h64 := B4.out.keep hb4
 have hg4 := HGS.out
 have hu4 := YU.out.keep hb4
 have hk4 := KY.out.trans (below_kpU gu hb4)
 have H4 : Hid (TmAt w4 (Upto w w4 S) (.var s) cs4) := ht4.more fun q hq => by
  rcases hq with h0 | h0
  · exact .inl h0
  · exact .inr ⟨by have := HZ.out; omega, h0.2⟩
 go_wp2_with ((with_reducible refine storeTb (cs := cs4) (.tmp 4) (.tmp 25) ?_ ?_ ?_ ?_ (hI h64).out ?_ ?_ ?_ ?_); rfl; rfl; rfl; rfl; rfl; exact O4.out.1; exact O4.out.2)
 exact retTb rfl rfl (h64.set _) O4.out.1 ⟨_, rfl, TmAt.boxed H4.out h64.nb _, hu4.other (by omega), hk4.row (by omega) _⟩
theorem unqCon (o : Ob) (gu : Nat) (p : Value) (L : Int) (w : World) (S : Nat → Prop) (hS : In S w) (hgS : ¬ S gu) (hgw : gu < w.heap.size) (hU : UB w gu L) (h1 : 1 ≤ L) (h2 : L ≤ 3000) (hp : Pair w S (Ob.list [qS, o]) p) (hn : (Ob.list [qS, o]).nodes ≤ 100000) :
 Calls Tryz.prog 90 #[.pointer (some ⟨gu, 0, none⟩), .agg #[.int .i64 4, .string ⟨#[]⟩, .string ⟨#[]⟩, .string ⟨#[]⟩, .string ⟨#[]⟩, .string ⟨#[]⟩, p]] w (RetUq w S gu (.con o) 1 L) := by
 have hB2 : Below w.heap.size w ((w.alloc (.cells #[.int .i64 4, .string ⟨#[]⟩, .string ⟨#[]⟩, .string ⟨#[]⟩, .string ⟨#[]⟩, .string ⟨#[]⟩, p] 33)).alloc (.cells #[.int .i64 0, .string ⟨#[]⟩, .string ⟨#[]⟩, .int .i64 0, .string ⟨#[]⟩, .string ⟨#[]⟩, .string ⟨#[]⟩, .string ⟨#[]⟩, .string ⟨#[]⟩, .slice none 0 0, .slice none 0 0] 35)) := Below.alloc (Below.alloc (Below.refl _ _) (Nat.le_refl _) _) (by simp) _
 have r3 : ((w.alloc (.cells #[.int .i64 4, .string ⟨#[]⟩, .string ⟨#[]⟩, .string ⟨#[]⟩, .string ⟨#[]⟩, .string ⟨#[]⟩, p] 33)).alloc (.cells #[.int .i64 0, .string ⟨#[]⟩, .string ⟨#[]⟩, .int .i64 0, .string ⟨#[]⟩, .string ⟨#[]⟩, .string ⟨#[]⟩, .string ⟨#[]⟩, .string ⟨#[]⟩, .slice none 0 0, .slice none 0 0] 35)).heap[w.heap.size]? = some (.cells #[.int .i64 4, .string ⟨#[]⟩, .string ⟨#[]⟩, .string ⟨#[]⟩, .string ⟨#[]⟩, .string ⟨#[]⟩, p] 33 (0, 0)) := (Below.heap_alloc _ _ _ (by simp)).trans (heap_alloc_new w _)
 have r4 : TB ((w.alloc (.cells #[.int .i64 4, .string ⟨#[]⟩, .string ⟨#[]⟩, .string ⟨#[]⟩, .string ⟨#[]⟩, .string ⟨#[]⟩, p] 33)).alloc (.cells #[.int .i64 0, .string ⟨#[]⟩, .string ⟨#[]⟩, .int .i64 0, .string ⟨#[]⟩, .string ⟨#[]⟩, .string ⟨#[]⟩, .string ⟨#[]⟩, .string ⟨#[]⟩, .slice none 0 0, .slice none 0 0] 35)) (w.heap.size + 1) zT := heap_new_at (by simp)
 have hz : ((w.alloc (.cells #[.int .i64 4, .string ⟨#[]⟩, .string ⟨#[]⟩, .string ⟨#[]⟩, .string ⟨#[]⟩, .string ⟨#[]⟩, p] 33)).alloc (.cells #[.int .i64 0, .string ⟨#[]⟩, .string ⟨#[]⟩, .int .i64 0, .string ⟨#[]⟩, .string ⟨#[]⟩, .string ⟨#[]⟩, .string ⟨#[]⟩, .string ⟨#[]⟩, .slice none 0 0, .slice none 0 0] 35)).heap.size = w.heap.size + 2 := by simp
 have U2 : UB ((w.alloc (.cells #[.int .i64 4, .string ⟨#[]⟩, .string ⟨#[]⟩, .string ⟨#[]⟩, .string ⟨#[]⟩, .string ⟨#[]⟩, p] 33)).alloc (.cells #[.int .i64 0, .string ⟨#[]⟩, .string ⟨#[]⟩, .int .i64 0, .string ⟨#[]⟩, .string ⟨#[]⟩, .string ⟨#[]⟩, .string ⟨#[]⟩, .string ⟨#[]⟩, .slice none 0 0, .slice none 0 0] 35)) gu L := hU.keep hB2
 have c0 := U2.cell
 have f0 := U2.free
 have YU := hI (U2.set (M := L - 1))
 have KY : Hid (KpU gu w (((w.alloc (.cells #[.int .i64 4, .string ⟨#[]⟩, .string ⟨#[]⟩, .string ⟨#[]⟩, .string ⟨#[]⟩, .string ⟨#[]⟩, p] 33)).alloc (.cells #[.int .i64 0, .string ⟨#[]⟩, .string ⟨#[]⟩, .int .i64 0, .string ⟨#[]⟩, .string ⟨#[]⟩, .string ⟨#[]⟩, .string ⟨#[]⟩, .string ⟨#[]⟩, .slice none 0 0, .slice none 0 0] 35)).setCell ⟨gu, 0, none⟩ (.int .i64 (L - 1)))) := (below_kpU gu hB2).trans (KpU.set gu _ _)
 have ho : ∀ q, q ≠ gu → (((w.alloc (.cells #[.int .i64 4, .string ⟨#[]⟩, .string ⟨#[]⟩, .string ⟨#[]⟩, .string ⟨#[]⟩, .string ⟨#[]⟩, p] 33)).alloc (.cells #[.int .i64 0, .string ⟨#[]⟩, .string ⟨#[]⟩, .int .i64 0, .string ⟨#[]⟩, .string ⟨#[]⟩, .string ⟨#[]⟩, .string ⟨#[]⟩, .string ⟨#[]⟩, .slice none 0 0, .slice none 0 0] 35)).setCell ⟨gu, 0, none⟩ (.int .i64 (L - 1))).heap[q]? = ((w.alloc (.cells #[.int .i64 4, .string ⟨#[]⟩, .string ⟨#[]⟩, .string ⟨#[]⟩, .string ⟨#[]⟩, .string ⟨#[]⟩, p] 33)).alloc (.cells #[.int .i64 0, .string ⟨#[]⟩, .string ⟨#[]⟩, .int .i64 0, .string ⟨#[]⟩, .string ⟨#[]⟩, .string ⟨#[]⟩, .string ⟨#[]⟩, .string ⟨#[]⟩, .slice none 0 0, .slice none 0 0] 35)).heap[q]? := fun q hq => Below.heap_setCell _ ⟨gu, 0, none⟩ _ q hq
 have B3 : Hid (Bx (((w.alloc (.cells #[.int .i64 4, .string ⟨#[]⟩, .string ⟨#[]⟩, .string ⟨#[]⟩, .string ⟨#[]⟩, .string ⟨#[]⟩, p] 33)).alloc (.cells #[.int .i64 0, .string ⟨#[]⟩, .string ⟨#[]⟩, .int .i64 0, .string ⟨#[]⟩, .string ⟨#[]⟩, .string ⟨#[]⟩, .string ⟨#[]⟩, .string ⟨#[]⟩, .slice none 0 0, .slice none 0 0] 35)).setCell ⟨gu, 0, none⟩ (.int .i64 (L - 1))) w.heap.size #[.int .i64 4, .string ⟨#[]⟩, .string ⟨#[]⟩, .string ⟨#[]⟩, .string ⟨#[]⟩, .string ⟨#[]⟩, p]) := (ho _ (by omega)).trans r3
 have B4 : Hid (TB (((w.alloc (.cells #[.int .i64 4, .string ⟨#[]⟩, .string ⟨#[]⟩, .string ⟨#[]⟩, .string ⟨#[]⟩, .string ⟨#[]⟩, p] 33)).alloc (.cells #[.int .i64 0, .string ⟨#[]⟩, .string ⟨#[]⟩, .int .i64 0, .string ⟨#[]⟩, .string ⟨#[]⟩, .string ⟨#[]⟩, .string ⟨#[]⟩, .string ⟨#[]⟩, .slice none 0 0, .slice none 0 0] 35)).setCell ⟨gu, 0, none⟩ (.int .i64 (L - 1))) (w.heap.size + 1) zT) := (ho _ (by omega)).trans r4
 have HS := hI hS
 have HGS : Hid (¬ S gu ∧ gu < w.heap.size) := ⟨hgS, hgw⟩
 have HZ : Hid ((((w.alloc (.cells #[.int .i64 4, .string ⟨#[]⟩, .string ⟨#[]⟩, .string ⟨#[]⟩, .string ⟨#[]⟩, .string ⟨#[]⟩, p] 33)).alloc (.cells #[.int .i64 0, .string ⟨#[]⟩, .string ⟨#[]⟩, .int .i64 0, .string ⟨#[]⟩, .string ⟨#[]⟩, .string ⟨#[]⟩, .string ⟨#[]⟩, .string ⟨#[]⟩, .slice none 0 0, .slice none 0 0] 35)).setCell ⟨gu, 0, none⟩ (.int .i64 (L - 1))).heap.size = w.heap.size + 2) := (show _ = _ by rw [← hz]; simp [World.setCell])
 have HLL : Hid (1 ≤ L ∧ L ≤ 3000) := ⟨h1, h2⟩
 have hL0 : ¬ (L - 1 < 0) := by omega
 have hw64 : wrap64 (L - 1) = L - 1 := IntWalk.wrap64_in _ (by omega)
 have HP : Hid (Pair (((w.alloc (.cells #[.int .i64 4, .string ⟨#[]⟩, .string ⟨#[]⟩, .string ⟨#[]⟩, .string ⟨#[]⟩, .string ⟨#[]⟩, p] 33)).alloc (.cells #[.int .i64 0, .string ⟨#[]⟩, .string ⟨#[]⟩, .int .i64 0, .string ⟨#[]⟩, .string ⟨#[]⟩, .string ⟨#[]⟩, .string ⟨#[]⟩, .string ⟨#[]⟩, .slice none 0 0, .slice none 0 0] 35)).setCell ⟨gu, 0, none⟩ (.int .i64 (L - 1))) S (Ob.list [qS, o]) p) := hp.keep (fun _ h => h) fun q hq => (ho q (fun e => hgS (e ▸ hq))).trans (hB2.block q (hS q hq))
 have HSY : Hid (In S (((w.alloc (.cells #[.int .i64 4, .string ⟨#[]⟩, .string ⟨#[]⟩, .string ⟨#[]⟩, .string ⟨#[]⟩, .string ⟨#[]⟩, p] 33)).alloc (.cells #[.int .i64 0, .string ⟨#[]⟩, .string ⟨#[]⟩, .int .i64 0, .string ⟨#[]⟩, .string ⟨#[]⟩, .string ⟨#[]⟩, .string ⟨#[]⟩, .string ⟨#[]⟩, .slice none 0 0, .slice none 0 0] 35)).setCell ⟨gu, 0, none⟩ (.int .i64 (L - 1)))) := fun q hq => by have := hS q hq; have := HZ.out; omega
 clear hU hS hgS hgw h2 hp
 go_enter Tryz.func90, Tryz.ntmps90
 go_upto_region 2 with fail
 clear c0 f0 U2 r3 r4 hz ho hB2
 generalize (((w.alloc (.cells #[.int .i64 4, .string ⟨#[]⟩, .string ⟨#[]⟩, .string ⟨#[]⟩, .string ⟨#[]⟩, .string ⟨#[]⟩, p] 33)).alloc (.cells #[.int .i64 0, .string ⟨#[]⟩, .string ⟨#[]⟩, .int .i64 0, .string ⟨#[]⟩, .string ⟨#[]⟩, .string ⟨#[]⟩, .string ⟨#[]⟩, .string ⟨#[]⟩, .slice none 0 0, .slice none 0 0] 35)).setCell ⟨gu, 0, none⟩ (.int .i64 (L - 1))) = Y at *
 obtain ⟨b0, b1, b2, b3, b4, b5, b6⟩ := B3.out.c
 have ku := YU.out.cell
 have IT := hI (itemsP (Ob.list [qS, o]) p Y S HSY.out HP.out hn)
 rw [show (Ob.list [qS, o]).items = some ([qS, o]) from Ob.items_list _] at IT
 go_wp2_with fail
 refine IT.out.mono ?_
 rintro e w5 ⟨hb5, g, rfl, hobs, hg1, hg2⟩
 replace B4 := hI (B4.out.keep hb5)
 replace YU := hI (YU.out.keep hb5)
 replace KY := hI (KY.out.trans (below_kpU gu hb5))
 have HZ5 : Hid (w.heap.size + 2 ≤ g ∧ g < w5.heap.size) := ⟨by have := HZ.out; omega, hg2⟩
 obtain ⟨p0, _, hc0⟩ := hobs.get (i := 0) (by simp)
 have c00 : w5.cell? ⟨g, 0, none⟩ = some (.int .i64 2) := hc0 0 _ rfl
 have c03 : w5.cell? ⟨g, 3, none⟩ = some (.string ⟨#[108, 105, 115, 112]⟩) := by
  have h : w5.cell? ⟨g, 0 + 0 * 7 + 3, none⟩ = _ := hc0 3 _ rfl
  skip
  exact h
 have c04 : w5.cell? ⟨g, 4, none⟩ = some (.string ⟨#[113, 117, 111, 116, 101]⟩) := by
  have h : w5.cell? ⟨g, 0 + 0 * 7 + 4, none⟩ = _ := hc0 4 _ rfl
  skip
  exact h
 have C03 := hI c03
 have C04 := hI c04
 have HOBS := hI hobs
 have hln : (2 : Int) = 2 := rfl
 clear hobs hc0 b0 b1 b2 b3 b4 b5 b6 hb5 ku
 go_wp2_with fail
 refine wp_region_grow (l := _) 5 (by kernel_rfl) (by kernel_rfl) (fun i => [41, 42, 43, 44, 45].getD i 0) (LR [LV (.slice (some ⟨g, 0, none⟩) 2 2), LV (.pointer (some ⟨g, 0, none⟩)), LV (.pointer (some ⟨g, 3, none⟩)), LV (.agg #[.string ⟨#[108, 105, 115, 112]⟩, .string ⟨#[113, 117, 111, 116, 101]⟩]), LV (.agg #[.string ⟨#[108, 105, 115, 112]⟩, .string ⟨#[113, 117, 111, 116, 101]⟩])]) (LR_mono ⟨mLV _, mLV _, mLV _, mLV _, mLV _, trivial⟩) (by
  intro i j hi hj h
  exact inj_getD [41, 42, 43, 44, 45] (by decide) i j hi hj h) (by
  intro i hi
  exact lt_getD 63 [41, 42, 43, 44, 45] (by decide) i hi) ?step ?done
 case step =>
  intro ii hii a w9 v lo hi' hoth hb hw
  have sl5 : a.tmps[5]? = some (.slice (some ⟨g, 0, none⟩) 2 2) := (hoth 5 (fun j hj => ne_getD 5 _ (by decide) j hj)).trans rfl
  match ii, hii with
  | 0, _ =>
   exact gw_move rfl (wanted_plain rfl) 5 _ rfl sl5 ⟨_, rfl, Below.refl _ _, rfl⟩
  | 1, _ =>
   obtain ⟨s0, r0, _⟩ := hw 0 (by omega) (by kernel_rfl)
   have e0 : v 0 = .slice (some ⟨g, 0, none⟩) 2 2 := r0
   rw [e0] at s0
   replace s0 : a.tmps[41]? = some (.slice (some ⟨g, 0, none⟩) 2 2) := s0
   refine wpOp_step rfl fun K' hK' => ?_
   rw [if_pos (wanted_plain rfl)]
   unfold Oper.wp
   simp only [execOp]
   go_simp
   exact hK' _ _ ⟨_, rfl, Below.refl _ _, rfl⟩
  | 2, _ =>
   obtain ⟨s0, r0, _⟩ := hw 1 (by omega) (by kernel_rfl)
   have e0 : v 1 = .pointer (some ⟨g, 0, none⟩) := r0
   rw [e0] at s0
   replace s0 : a.tmps[42]? = some (.pointer (some ⟨g, 0, none⟩)) := s0
   refine wpOp_step rfl fun K' hK' => ?_
   rw [if_pos (wanted_plain rfl)]
   unfold Oper.wp
   simp only [execOp]
   go_simp
   exact hK' _ _ ⟨_, rfl, Below.refl _ _, rfl⟩
  | 3, _ =>
   obtain ⟨s0, r0, _⟩ := hw 2 (by omega) (by kernel_rfl)
   have e0 : v 2 = .pointer (some ⟨g, 3, none⟩) := r0
   rw [e0] at s0
   replace s0 : a.tmps[43]? = some (.pointer (some ⟨g, 3, none⟩)) := s0
   have cc := (hb.cell (p := ⟨g, 3, none⟩) HZ5.out.2).trans C03.out
   have cd := (hb.cell (p := ⟨g, 4, none⟩) HZ5.out.2).trans C04.out
   refine wpOp_step rfl fun K' hK' => ?_
   rw [if_pos (wanted_plain rfl)]
   unfold Oper.wp
   simp only [execOp]
   go_simp
   exact hK' _ _ ⟨_, rfl, Below.refl _ _, rfl⟩
  | 4, _ =>
   refine gw_c rfl (wanted_plain rfl) 70  _ _ rfl (fun v w => by go_simp)  ?_
   with_reducible refine (lispT _ w9).mono ?_
   rintro e w3 ⟨rfl, hb3⟩
   exact ⟨_, rfl, _, rfl, hb3, rfl⟩
 case done =>
  intro a w9 v lo hi' hdef hsz hoth hb hj hap
  obtain ⟨_, hv3, _, _⟩ := hj 3 (by omega)
  obtain ⟨_, hv4, _, _⟩ := hj 4 (by omega)
  have ha := eq_puts hdef hsz hoth (fun i hi => (hj i hi).1)
  subst ha
  clear hj hoth hdef hsz hap
  change v 3 = _ at hv3
  change v 4 = _ at hv4
  simp only [puts, List.getD_cons_zero, List.getD_cons_succ, hv3, hv4]
  generalize v 0 = v0
  generalize v 1 = v1
  generalize v 2 = v2
  clear hv3 hv4
  simp only [Act.put, List.setIfInBounds_toArray, List.set_cons_zero, List.set_cons_succ]
  show wpList _ _ _ [_] _ _
  obtain ⟨p1, hp1, hc1⟩ := HOBS.out.get (i := 1) (by simp)
  replace hp1 : Pair w5 S o p1 := hp1
  obtain ⟨a0, a1, a2, a3, a4, a5, ec⟩ := cells7 o p1
  have kc : ∀ j u, [a0, a1, a2, a3, a4, a5, p1][j]? = some u → w9.cell? ⟨g, 7 + j, none⟩ = some u := fun j u hj => (hb.cell (p := ⟨g, 7 + j, none⟩) HZ5.out.2).trans (by
   have h := hc1 j u (by rw [← ec] at hj; exact hj)
   rw [show 0 + 1 * 7 + j = 7 + j from by omega] at h
   exact h)
  have d0 : w9.cell? ⟨g, 7, none⟩ = some a0 := kc 0 _ rfl
  have d1 : w9.cell? ⟨g, 8, none⟩ = some a1 := kc 1 _ rfl
  have d2 : w9.cell? ⟨g, 9, none⟩ = some a2 := kc 2 _ rfl
  have d3 : w9.cell? ⟨g, 10, none⟩ = some a3 := kc 3 _ rfl
  have d4 : w9.cell? ⟨g, 11, none⟩ = some a4 := kc 4 _ rfl
  have d5 : w9.cell? ⟨g, 12, none⟩ = some a5 := kc 5 _ rfl
  have d6 : w9.cell? ⟨g, 13, none⟩ = some p1 := kc 6 _ rfl
  have hw5 : w.heap.size ≤ w5.heap.size := by have := HZ5.out; omega
  have hSw : In S w5 := fun q hq => by have := HS.out q hq; omega
  have CON : Hid (Calls Tryz.prog 20 #[.agg #[a0, a1, a2, a3, a4, a5, p1]] w9 (RetT w9 S (.con o))) := (show Calls _ _ _ _ _ by
   have h := conP o p1 w9 S (hSw.later hb.size) (hp1.below hSw hb)
   unfold vO at h
   rw [ec] at h
   exact h)
  replace B4 := hI (B4.out.keep hb)
  replace YU := hI (YU.out.keep hb)
  replace KY := hI (KY.out.trans (below_kpU gu hb))
  have HZ9 : Hid (w.heap.size ≤ w9.heap.size) := Nat.le_trans hw5 hb.size
  clear hc1 hp1 ec kc hb hSw c00 c03 c04 C03 C04 HOBS
  go_wp2_with fail
  refine CON.out.mono ?_
  rintro e w4 ⟨cs4, rfl, ht4, hb4⟩
  have O4 := hI ht4.o11
  have h64 := B4.out.keep hb4
  have hg4 := HGS.out
  have hu4 := YU.out.keep hb4
  have hk4 := KY.out.trans (below_kpU gu hb4)
  have H4 : Hid (TmAt w4 (Upto w w4 S) (.con o) cs4) := ht4.more fun q hq => by
   rcases hq with h0 | h0
   · exact .inl h0
   · exact .inr ⟨by have := HZ9.out; omega, h0.2⟩
  go_wp2_with ((with_reducible refine storeTb (cs := cs4) (.tmp 4) (.tmp 62) ?_ ?_ ?_ ?_ (hI h64).out ?_ ?_ ?_ ?_); rfl; rfl; rfl; rfl; rfl; exact O4.out.1; exact O4.out.2)
  exact retTb rfl rfl (h64.set _) O4.out.1 ⟨_, rfl, TmAt.boxed H4.out h64.nb _, hu4.other (by omega), hk4.row (by omega) _⟩
section
variable {Q : Exit → Act → World → Prop} {K : Act → World → Prop} {ops : Array Oper} {a : Act} {w : World} {i : Nat} {o : Oper}
theorem gw_sl1O (ho : ops[i]? = some o) (hw : Region.wanted o (yielded ops a.tmps) = true) (s : Tmp) (b q n c : Nat) (hop : o.op = Op.slice 31 (.tmp s) (some (.const (.int .i64 1))) none none) (hx : a.tmps[s]? = some (.slice (some ⟨b, q, none⟩) (n + 1) c)) (hK : K (a.put o.dst (.slice (if c = 1 then some ⟨b, q, none⟩ else some ⟨b, q + 7, none⟩) n (c - 1))) w) : wpOp Tryz.prog ops Q i K a w :=
 wpOp_step ho fun K' hK' => by
  rw [if_pos hw]
  unfold Oper.wp
  have h1 : (1 : Int) ≤ (n : Int) + 1 := by omega
  simp only [execOp, hop]
  go_simp
  by_cases hc : c = 1
  · subst hc
    simp at hK ⊢
    exact hK' _ _ hK
  · simp [hc] at hK ⊢
    exact hK' _ _ hK
end
theorem ObsAt.keepU {w w' : World} {S S' : Nat → Prop} (hS : ∀ b, S b → S' b) (hk : ∀ b, S b → w'.heap[b]? = w.heap[b]?) {b : Nat} (hb : w'.heap[b]? = w.heap[b]?) : ∀ {l : List Ob} {o : Nat}, ObsAt w S b o l → ObsAt w' S' b o l
 | [], o, _ => trivial
 | r :: rs, o, h => by
  unfold ObsAt at h ⊢
  obtain ⟨⟨p, h1, h2⟩, h3⟩ := h
  exact ⟨⟨p, h1.keep hS hk, fun j u hj => (World.cell?_of_block (a := ⟨b, o + j, none⟩) hb).trans (h2 j u hj)⟩, ObsAt.keepU hS hk hb h3⟩
theorem unqApp (s : Nm) (l : List Tm) (gu : Nat) (p : Value) (L : Int) (w : World) (S : Nat → Prop) (hS : In S w) (hgS : ¬ S gu) (hgw : gu < w.heap.size) (hU : UB w gu L) (h1 : 1 + (Tm.qns l : Int) ≤ L) (h2 : L ≤ 3000) (hp : Pair w S (Ob.list (.sym (LA s.1) (LA s.2) :: l.map quO)) p) (hn : (Ob.list (.sym (LA s.1) (LA s.2) :: l.map quO)).nodes ≤ 100000)
 (hsq : ¬ (s.1.toList = [108, 105, 115, 112] ∧ s.2.toList = [113, 117, 111, 116, 101])) (hl8 : l.length ≤ 8)
 (ke : ∀ x ∈ l, ∀ (W : World) (q : Value) (M : Int) (S' : Nat → Prop), In S' W → ¬ S' gu → gu < W.heap.size → Pair W S' (quO x) q → UB W gu M → (x.qn : Int) ≤ M → M ≤ 3000 → Calls Tryz.prog 90 #[.pointer (some ⟨gu, 0, none⟩), vO (quO x) q] W (RetUq W S' gu x x.qn M)) :
 Calls Tryz.prog 90 #[.pointer (some ⟨gu, 0, none⟩), .agg #[.int .i64 4, .string ⟨#[]⟩, .string ⟨#[]⟩, .string ⟨#[]⟩, .string ⟨#[]⟩, .string ⟨#[]⟩, p]] w (RetUq w S gu (.app s l) (1 + Tm.qns l) L) := by
 have hB2 : Below w.heap.size w ((w.alloc (.cells #[.int .i64 4, .string ⟨#[]⟩, .string ⟨#[]⟩, .string ⟨#[]⟩, .string ⟨#[]⟩, .string ⟨#[]⟩, p] 33)).alloc (.cells #[.int .i64 0, .string ⟨#[]⟩, .string ⟨#[]⟩, .int .i64 0, .string ⟨#[]⟩, .string ⟨#[]⟩, .string ⟨#[]⟩, .string ⟨#[]⟩, .string ⟨#[]⟩, .slice none 0 0, .slice none 0 0] 35)) := Below.alloc (Below.alloc (Below.refl _ _) (Nat.le_refl _) _) (by simp) _
 have r3 : ((w.alloc (.cells #[.int .i64 4, .string ⟨#[]⟩, .string ⟨#[]⟩, .string ⟨#[]⟩, .string ⟨#[]⟩, .string ⟨#[]⟩, p] 33)).alloc (.cells #[.int .i64 0, .string ⟨#[]⟩, .string ⟨#[]⟩, .int .i64 0, .string ⟨#[]⟩, .string ⟨#[]⟩, .string ⟨#[]⟩, .string ⟨#[]⟩, .string ⟨#[]⟩, .slice none 0 0, .slice none 0 0] 35)).heap[w.heap.size]? = some (.cells #[.int .i64 4, .string ⟨#[]⟩, .string ⟨#[]⟩, .string ⟨#[]⟩, .string ⟨#[]⟩, .string ⟨#[]⟩, p] 33 (0, 0)) := (Below.heap_alloc _ _ _ (by simp)).trans (heap_alloc_new w _)
 have r4 : TB ((w.alloc (.cells #[.int .i64 4, .string ⟨#[]⟩, .string ⟨#[]⟩, .string ⟨#[]⟩, .string ⟨#[]⟩, .string ⟨#[]⟩, p] 33)).alloc (.cells #[.int .i64 0, .string ⟨#[]⟩, .string ⟨#[]⟩, .int .i64 0, .string ⟨#[]⟩, .string ⟨#[]⟩, .string ⟨#[]⟩, .string ⟨#[]⟩, .string ⟨#[]⟩, .slice none 0 0, .slice none 0 0] 35)) (w.heap.size + 1) zT := heap_new_at (by simp)
 have hz : ((w.alloc (.cells #[.int .i64 4, .string ⟨#[]⟩, .string ⟨#[]⟩, .string ⟨#[]⟩, .string ⟨#[]⟩, .string ⟨#[]⟩, p] 33)).alloc (.cells #[.int .i64 0, .string ⟨#[]⟩, .string ⟨#[]⟩, .int .i64 0, .string ⟨#[]⟩, .string ⟨#[]⟩, .string ⟨#[]⟩, .string ⟨#[]⟩, .string ⟨#[]⟩, .slice none 0 0, .slice none 0 0] 35)).heap.size = w.heap.size + 2 := by simp
 have U2 : UB ((w.alloc (.cells #[.int .i64 4, .string ⟨#[]⟩, .string ⟨#[]⟩, .string ⟨#[]⟩, .string ⟨#[]⟩, .string ⟨#[]⟩, p] 33)).alloc (.cells #[.int .i64 0, .string ⟨#[]⟩, .string ⟨#[]⟩, .int .i64 0, .string ⟨#[]⟩, .string ⟨#[]⟩, .string ⟨#[]⟩, .string ⟨#[]⟩, .string ⟨#[]⟩, .slice none 0 0, .slice none 0 0] 35)) gu L := hU.keep hB2
 have c0 := U2.cell
 have f0 := U2.free
 have YU := hI (U2.set (M := L - 1))
 have KY : Hid (KpU gu w (((w.alloc (.cells #[.int .i64 4, .string ⟨#[]⟩, .string ⟨#[]⟩, .string ⟨#[]⟩, .string ⟨#[]⟩, .string ⟨#[]⟩, p] 33)).alloc (.cells #[.int .i64 0, .string ⟨#[]⟩, .string ⟨#[]⟩, .int .i64 0, .string ⟨#[]⟩, .string ⟨#[]⟩, .string ⟨#[]⟩, .string ⟨#[]⟩, .string ⟨#[]⟩, .slice none 0 0, .slice none 0 0] 35)).setCell ⟨gu, 0, none⟩ (.int .i64 (L - 1)))) := (below_kpU gu hB2).trans (KpU.set gu _ _)
 have ho : ∀ q, q ≠ gu → (((w.alloc (.cells #[.int .i64 4, .string ⟨#[]⟩, .string ⟨#[]⟩, .string ⟨#[]⟩, .string ⟨#[]⟩, .string ⟨#[]⟩, p] 33)).alloc (.cells #[.int .i64 0, .string ⟨#[]⟩, .string ⟨#[]⟩, .int .i64 0, .string ⟨#[]⟩, .string ⟨#[]⟩, .string ⟨#[]⟩, .string ⟨#[]⟩, .string ⟨#[]⟩, .slice none 0 0, .slice none 0 0] 35)).setCell ⟨gu, 0, none⟩ (.int .i64 (L - 1))).heap[q]? = ((w.alloc (.cells #[.int .i64 4, .string ⟨#[]⟩, .string ⟨#[]⟩, .string ⟨#[]⟩, .string ⟨#[]⟩, .string ⟨#[]⟩, p] 33)).alloc (.cells #[.int .i64 0, .string ⟨#[]⟩, .string ⟨#[]⟩, .int .i64 0, .string ⟨#[]⟩, .string ⟨#[]⟩, .string ⟨#[]⟩, .string ⟨#[]⟩, .string ⟨#[]⟩, .slice none 0 0, .slice none 0 0] 35)).heap[q]? := fun q hq => Below.heap_setCell _ ⟨gu, 0, none⟩ _ q hq
 have B3 : Hid (Bx (((w.alloc (.cells #[.int .i64 4, .string ⟨#[]⟩, .string ⟨#[]⟩, .string ⟨#[]⟩, .string ⟨#[]⟩, .string ⟨#[]⟩, p] 33)).alloc (.cells #[.int .i64 0, .string ⟨#[]⟩, .string ⟨#[]⟩, .int .i64 0, .string ⟨#[]⟩, .string ⟨#[]⟩, .string ⟨#[]⟩, .string ⟨#[]⟩, .string ⟨#[]⟩, .slice none 0 0, .slice none 0 0] 35)).setCell ⟨gu, 0, none⟩ (.int .i64 (L - 1))) w.heap.size #[.int .i64 4, .string ⟨#[]⟩, .string ⟨#[]⟩, .string ⟨#[]⟩, .string ⟨#[]⟩, .string ⟨#[]⟩, p]) := (ho _ (by omega)).trans r3
 have B4 : Hid (TB (((w.alloc (.cells #[.int .i64 4, .string ⟨#[]⟩, .string ⟨#[]⟩, .string ⟨#[]⟩, .string ⟨#[]⟩, .string ⟨#[]⟩, p] 33)).alloc (.cells #[.int .i64 0, .string ⟨#[]⟩, .string ⟨#[]⟩, .int .i64 0, .string ⟨#[]⟩, .string ⟨#[]⟩, .string ⟨#[]⟩, .string ⟨#[]⟩, .string ⟨#[]⟩, .slice none 0 0, .slice none 0 0] 35)).setCell ⟨gu, 0, none⟩ (.int .i64 (L - 1))) (w.heap.size + 1) zT) := (ho _ (by omega)).trans r4
 have HS := hI hS
 have HGS : Hid (¬ S gu ∧ gu < w.heap.size) := ⟨hgS, hgw⟩
 have HZ : Hid ((((w.alloc (.cells #[.int .i64 4, .string ⟨#[]⟩, .string ⟨#[]⟩, .string ⟨#[]⟩, .string ⟨#[]⟩, .string ⟨#[]⟩, p] 33)).alloc (.cells #[.int .i64 0, .string ⟨#[]⟩, .string ⟨#[]⟩, .int .i64 0, .string ⟨#[]⟩, .string ⟨#[]⟩, .string ⟨#[]⟩, .string ⟨#[]⟩, .string ⟨#[]⟩, .slice none 0 0, .slice none 0 0] 35)).setCell ⟨gu, 0, none⟩ (.int .i64 (L - 1))).heap.size = w.heap.size + 2) := (show _ = _ by rw [← hz]; simp [World.setCell])
 have HLL : Hid (1 ≤ L ∧ L ≤ 3000) := ⟨by omega, h2⟩
 have hL0 : ¬ (L - 1 < 0) := by omega
 have hw64 : wrap64 (L - 1) = L - 1 := IntWalk.wrap64_in _ (by omega)
 have HP : Hid (Pair (((w.alloc (.cells #[.int .i64 4, .string ⟨#[]⟩, .string ⟨#[]⟩, .string ⟨#[]⟩, .string ⟨#[]⟩, .string ⟨#[]⟩, p] 33)).alloc (.cells #[.int .i64 0, .string ⟨#[]⟩, .string ⟨#[]⟩, .int .i64 0, .string ⟨#[]⟩, .string ⟨#[]⟩, .string ⟨#[]⟩, .string ⟨#[]⟩, .string ⟨#[]⟩, .slice none 0 0, .slice none 0 0] 35)).setCell ⟨gu, 0, none⟩ (.int .i64 (L - 1))) S (Ob.list (.sym (LA s.1) (LA s.2) :: l.map quO)) p) := hp.keep (fun _ h => h) fun q hq => (ho q (fun e => hgS (e ▸ hq))).trans (hB2.block q (hS q hq))
 have HSY : Hid (In S (((w.alloc (.cells #[.int .i64 4, .string ⟨#[]⟩, .string ⟨#[]⟩, .string ⟨#[]⟩, .string ⟨#[]⟩, .string ⟨#[]⟩, p] 33)).alloc (.cells #[.int .i64 0, .string ⟨#[]⟩, .string ⟨#[]⟩, .int .i64 0, .string ⟨#[]⟩, .string ⟨#[]⟩, .string ⟨#[]⟩, .string ⟨#[]⟩, .string ⟨#[]⟩, .slice none 0 0, .slice none 0 0] 35)).setCell ⟨gu, 0, none⟩ (.int .i64 (L - 1)))) := fun q hq => by have := hS q hq; have := HZ.out; omega
 have HQ : Hid ((Tm.qns l : Int) ≤ L - 1 ∧ L - 1 ≤ 3000) := (show _ ∧ _ from ⟨by omega, by omega⟩)
 have KE := hI ke
 obtain ⟨N, hN⟩ : ∃ N, l.length = N := ⟨_, rfl⟩
 have HN := hI hN
 have hcase : (¬ s.1.toList = [108, 105, 115, 112]) ∨ (s.1.toList = [108, 105, 115, 112] ∧ ¬ s.2.toList = [113, 117, 111, 116, 101]) := by
  by_cases h : s.1.toList = [108, 105, 115, 112]
  · exact .inr ⟨h, fun h2 => hsq ⟨h, h2⟩⟩
  · exact .inl h
 have HCASE := hI hcase
 clear hU hS hgS hgw h2 hp hsq ke hN hcase
 go_enter Tryz.func90, Tryz.ntmps90
 go_upto_region 2 with fail
 clear c0 f0 U2 r3 r4 hz ho hB2
 generalize (((w.alloc (.cells #[.int .i64 4, .string ⟨#[]⟩, .string ⟨#[]⟩, .string ⟨#[]⟩, .string ⟨#[]⟩, .string ⟨#[]⟩, p] 33)).alloc (.cells #[.int .i64 0, .string ⟨#[]⟩, .string ⟨#[]⟩, .int .i64 0, .string ⟨#[]⟩, .string ⟨#[]⟩, .string ⟨#[]⟩, .string ⟨#[]⟩, .string ⟨#[]⟩, .slice none 0 0, .slice none 0 0] 35)).setCell ⟨gu, 0, none⟩ (.int .i64 (L - 1))) = Y at *
 obtain ⟨b0, b1, b2, b3, b4, b5, b6⟩ := B3.out.c
 have ku := YU.out.cell
 have IT := hI (itemsP (Ob.list (.sym (LA s.1) (LA s.2) :: l.map quO)) p Y S HSY.out HP.out hn)
 rw [show (Ob.list (.sym (LA s.1) (LA s.2) :: l.map quO)).items = some (.sym (LA s.1) (LA s.2) :: l.map quO) from Ob.items_list _] at IT
 go_wp2_with fail
 refine IT.out.mono ?_
 rintro e w5 ⟨hb5, g, rfl, hobs, hg1, hg2⟩
 have hlx : (Ob.sym (LA s.1) (LA s.2) :: l.map quO).length = N + 1 := by simp [HN.out]
 rw [hlx]
 have hn0 : (0 : Int) < ((N + 1 : Nat) : Int) := by omega
 replace B4 := hI (B4.out.keep hb5)
 replace YU := hI (YU.out.keep hb5)
 replace KY := hI (KY.out.trans (below_kpU gu hb5))
 have HZ5 : Hid (w.heap.size + 2 ≤ g ∧ g < w5.heap.size) := ⟨by have := HZ.out; omega, hg2⟩
 obtain ⟨p0, _, hc0⟩ := hobs.get (i := 0) (by simp)
 have c00 : w5.cell? ⟨g, 0, none⟩ = some (.int .i64 2) := hc0 0 _ rfl
 have c03 : w5.cell? ⟨g, 3, none⟩ = some (.string s.1) := by
  have h : w5.cell? ⟨g, 0 + 0 * 7 + 3, none⟩ = _ := hc0 3 _ rfl
  rw [BA_LA] at h
  exact h
 have c04 : w5.cell? ⟨g, 4, none⟩ = some (.string s.2) := by
  have h : w5.cell? ⟨g, 0 + 0 * 7 + 4, none⟩ = _ := hc0 4 _ rfl
  rw [BA_LA] at h
  exact h
 have C03 := hI c03
 have C04 := hI c04
 have HOBS := hI hobs
 clear hobs hc0 b0 b1 b2 b3 b4 b5 b6 hb5 ku
 go_wp2_with fail
 refine wp_region_grow (l := _) 5 (by kernel_rfl) (by kernel_rfl) (fun i => [41, 42, 43, 44, 45].getD i 0) (LR [LV (.slice (some ⟨g, 0, none⟩) (N + 1) (N + 1)), LV (.pointer (some ⟨g, 0, none⟩)), LV (.pointer (some ⟨g, 3, none⟩)), LV (.agg #[.string s.1, .string s.2]), LV (.agg #[.string ⟨#[108, 105, 115, 112]⟩, .string ⟨#[113, 117, 111, 116, 101]⟩])]) (LR_mono ⟨mLV _, mLV _, mLV _, mLV _, mLV _, trivial⟩) (by
  intro i j hi hj h
  exact inj_getD [41, 42, 43, 44, 45] (by decide) i j hi hj h) (by
  intro i hi
  exact lt_getD 63 [41, 42, 43, 44, 45] (by decide) i hi) ?step ?done
 case step =>
  intro ii hii a w9 v lo hi' hoth hb hw
  have sl5 : a.tmps[5]? = some (.slice (some ⟨g, 0, none⟩) (N + 1) (N + 1)) := (hoth 5 (fun j hj => ne_getD 5 _ (by decide) j hj)).trans rfl
  match ii, hii with
  | 0, _ =>
   exact gw_move rfl (wanted_plain rfl) 5 _ rfl sl5 ⟨_, rfl, Below.refl _ _, rfl⟩
  | 1, _ =>
   obtain ⟨s0, r0, _⟩ := hw 0 (by omega) (by kernel_rfl)
   have e0 : v 0 = .slice (some ⟨g, 0, none⟩) (N + 1) (N + 1) := r0
   rw [e0] at s0
   replace s0 : a.tmps[41]? = some (.slice (some ⟨g, 0, none⟩) (N + 1) (N + 1)) := s0
   refine wpOp_step rfl fun K' hK' => ?_
   rw [if_pos (wanted_plain rfl)]
   unfold Oper.wp
   simp only [execOp]
   go_simp
   exact hK' _ _ ⟨_, rfl, Below.refl _ _, rfl⟩
  | 2, _ =>
   obtain ⟨s0, r0, _⟩ := hw 1 (by omega) (by kernel_rfl)
   have e0 : v 1 = .pointer (some ⟨g, 0, none⟩) := r0
   rw [e0] at s0
   replace s0 : a.tmps[42]? = some (.pointer (some ⟨g, 0, none⟩)) := s0
   refine wpOp_step rfl fun K' hK' => ?_
   rw [if_pos (wanted_plain rfl)]
   unfold Oper.wp
   simp only [execOp]
   go_simp
   exact hK' _ _ ⟨_, rfl, Below.refl _ _, rfl⟩
  | 3, _ =>
   obtain ⟨s0, r0, _⟩ := hw 2 (by omega) (by kernel_rfl)
   have e0 : v 2 = .pointer (some ⟨g, 3, none⟩) := r0
   rw [e0] at s0
   replace s0 : a.tmps[43]? = some (.pointer (some ⟨g, 3, none⟩)) := s0
   have cc := (hb.cell (p := ⟨g, 3, none⟩) HZ5.out.2).trans C03.out
   have cd := (hb.cell (p := ⟨g, 4, none⟩) HZ5.out.2).trans C04.out
   refine wpOp_step rfl fun K' hK' => ?_
   rw [if_pos (wanted_plain rfl)]
   unfold Oper.wp
   simp only [execOp]
   go_simp
   exact hK' _ _ ⟨_, rfl, Below.refl _ _, rfl⟩
  | 4, _ =>
   refine gw_c rfl (wanted_plain rfl) 70  _ _ rfl (fun v w => by go_simp)  ?_
   with_reducible refine (lispT _ w9).mono ?_
   rintro e w3 ⟨rfl, hb3⟩
   exact ⟨_, rfl, _, rfl, hb3, rfl⟩
 case done =>
  intro a w9 v lo hi' hdef hsz hoth hb hj hap
  obtain ⟨_, hv3, _, _⟩ := hj 3 (by omega)
  obtain ⟨_, hv4, _, _⟩ := hj 4 (by omega)
  have ha := eq_puts hdef hsz hoth (fun i hi => (hj i hi).1)
  subst ha
  clear hj hoth hdef hsz hap
  change v 3 = _ at hv3
  change v 4 = _ at hv4
  simp only [puts, List.getD_cons_zero, List.getD_cons_succ, hv3, hv4]
  generalize v 0 = v0
  generalize v 1 = v1
  generalize v 2 = v2
  clear hv3 hv4
  simp only [Act.put, List.setIfInBounds_toArray, List.set_cons_zero, List.set_cons_succ]
  show wpList _ _ _ [_] _ _
  have hb9 := hb
  have D03 : Hid (w9.cell? ⟨g, 3, none⟩ = some (.string s.1)) := (hb.cell (p := ⟨g, 3, none⟩) HZ5.out.2).trans C03.out
  have D04 : Hid (w9.cell? ⟨g, 4, none⟩ = some (.string s.2)) := (hb.cell (p := ⟨g, 4, none⟩) HZ5.out.2).trans C04.out
  have hw5 : w.heap.size ≤ w5.heap.size := by have := HZ5.out; omega
  have hs9 := hb.size
  have hSw : In S w5 := fun q hq => by have := HS.out q hq; omega
  have HG5 : Hid (g < w9.heap.size) := Nat.lt_of_lt_of_le HZ5.out.2 hs9
  obtain ⟨S2, hS2⟩ : ∃ S2, Upto w w9 S = S2 := ⟨_, rfl⟩
  have HSX : Hid (∀ b, S2 b → S b ∨ (w.heap.size ≤ b ∧ b < w9.heap.size)) := (show ∀ _, _ from fun b h => by rw [← hS2] at h; exact h)
  have HS2 : Hid (In S2 w9) := fun q hq => by
   rcases HSX.out q hq with h | h
   · have := HS.out q h; omega
   · exact h.2
  have HNG : Hid (¬ S2 gu) := (show ¬ _ from fun h => by
   rcases HSX.out gu h with h | h
   · exact HGS.out.1 h
   · have := HGS.out.2; omega)
  have hobs9 : 0 < l.length → ∃ b o, (if N + 1 = 1 then some ⟨g, 0, none⟩ else some ⟨g, 0 + 7, none⟩ : Option Addr) = some ⟨b, o, none⟩ ∧ S2 b ∧ ObsAt w9 S2 b o (l.map quO) := fun h0 => by
   rw [HN.out] at h0
   refine ⟨g, 0 + 7, by rw [if_neg (by omega)], by rw [← hS2]; exact .inr ⟨by have := HZ5.out; omega, HG5.out⟩, ?_⟩
   have h := HOBS.out
   unfold ObsAt at h
   exact h.2.keepU (fun q hq => by rw [← hS2]; exact .inl hq) (fun q hq => hb.block q (hSw q hq)) (hb.block g HZ5.out.2)
  replace B4 := hI (B4.out.keep hb)
  replace YU := hI (YU.out.keep hb)
  replace KY := hI (KY.out.trans (below_kpU gu hb))
  have CALL : Hid (∀ W, Below w9.heap.size w9 W → Calls Tryz.prog 116 #[.pointer (some ⟨gu, 0, none⟩), .agg #[.string s.1, .string s.2], .slice (if N + 1 = 1 then some ⟨g, 0, none⟩ else some ⟨g, 0 + 7, none⟩) N (N + 1 - 1)] W (RetUq W S2 gu (.app s l) (Tm.qns l) (L - 1))) := (show ∀ _, _ from fun W hW => by
   have h := unqCall s l (if N + 1 = 1 then some ⟨g, 0, none⟩ else some ⟨g, 0 + 7, none⟩) (N + 1 - 1) gu (L - 1) W S2 (HS2.out.later hW.size) HNG.out (by have := HGS.out.2; have := hW.size; omega) hl8 (by rw [HN.out]; omega)
    (fun h0 => by
      obtain ⟨b, o, e, h1, h2⟩ := hobs9 h0
      exact ⟨b, o, e, h1, h2.keepU (fun q hq => hq) (fun q hq => hW.block q (HS2.out q hq)) (hW.block b (HS2.out b h1))⟩) (YU.out.keep hW) HQ.out.1 HQ.out.2 (fun x hx W' q M hI hg hP hU hM hM2 => KE.out x hx W' q M S2 hI HNG.out hg hP hU hM hM2)
   rw [HN.out] at h
   exact h)
  have HZ9 : Hid (w.heap.size ≤ w9.heap.size) := Nat.le_trans hw5 hs9
  clear hb hb9 hSw c00 c03 c04 C03 C04 HOBS hobs9 hn
  have hn9 : (0 : Int) < ((N + 1 : Nat) : Int) := by omega
  rcases HCASE.out with hs1 | ⟨hs1, hs2⟩
  · go_wp2_with fail
    refine wp_region_growC (l := _) 7 (by kernel_rfl) (by kernel_rfl) (fun i => [47, 48, 49, 50, 51, 52, 53].getD i 0) (LR [LV (.pointer (some ⟨gu, 0, none⟩)), LV (.slice (some ⟨g, 0, none⟩) (N + 1) (N + 1)), LV (.pointer (some ⟨g, 0, none⟩)), LV (.pointer (some ⟨g, 3, none⟩)), LV (.agg #[.string s.1, .string s.2]), LV (.slice (some ⟨g, 0, none⟩) (N + 1) (N + 1)), LV (.slice (if N + 1 = 1 then some ⟨g, 0, none⟩ else some ⟨g, 0 + 7, none⟩) N (N + 1 - 1))]) (LR_mono ⟨mLV _, mLV _, mLV _, mLV _, mLV _, mLV _, mLV _, trivial⟩) (by
     intro i j hi hj h
     exact inj_getD [47, 48, 49, 50, 51, 52, 53] (by decide) i j hi hj h) (by
     intro i hi
     exact lt_getD 63 [47, 48, 49, 50, 51, 52, 53] (by decide) i hi) [1, 2, 3, 5] (by kernel_rfl) 54 (by
     intro i hi
     have := ne_getD 54 [47, 48, 49, 50, 51, 52, 53] (by decide) i hi
     exact fun e => this e.symm) (fun _ w' x => ∃ cs, x = vTm cs ∧ TmAt w' (Upto w9 w' S2) (.app s l) cs ∧ UB w' gu (L - 1 - (Tm.qns l : Int)) ∧ KpU gu w9 w') ?step ?mid ?stepL ?done
    case step =>
     intro ii hii a w9 v lo hi' hoth hb hw
     have sl0 : a.tmps[0]? = some (.pointer (some ⟨gu, 0, none⟩)) := (hoth 0 (fun j hj => ne_getD 0 _ (by decide) j hj)).trans rfl
     have sl5 : a.tmps[5]? = some (.slice (some ⟨g, 0, none⟩) (N + 1) (N + 1)) := (hoth 5 (fun j hj => ne_getD 5 _ (by decide) j hj)).trans rfl
     match ii, hii with
     | 0, _ =>
      exact gw_move rfl (wanted_plain rfl) 0 _ rfl sl0 ⟨_, rfl, Below.refl _ _, rfl⟩
     | 1, _ =>
      exact gw_move rfl (wanted_plain rfl) 5 _ rfl sl5 ⟨_, rfl, Below.refl _ _, rfl⟩
     | 2, _ =>
      obtain ⟨s0, r0, _⟩ := hw 1 (by omega) (by kernel_rfl)
      have e0 : v 1 = .slice (some ⟨g, 0, none⟩) (N + 1) (N + 1) := r0
      rw [e0] at s0
      replace s0 : a.tmps[48]? = some (.slice (some ⟨g, 0, none⟩) (N + 1) (N + 1)) := s0
      have hn1 : (0 : Int) < ((N + 1 : Nat) : Int) := by omega
      refine wpOp_step rfl fun K' hK' => ?_
      rw [if_pos (wanted_plain rfl)]
      unfold Oper.wp
      simp only [execOp]
      go_simp
      exact hK' _ _ ⟨_, rfl, Below.refl _ _, rfl⟩
     | 3, _ =>
      obtain ⟨s0, r0, _⟩ := hw 2 (by omega) (by kernel_rfl)
      have e0 : v 2 = .pointer (some ⟨g, 0, none⟩) := r0
      rw [e0] at s0
      replace s0 : a.tmps[49]? = some (.pointer (some ⟨g, 0, none⟩)) := s0
      refine wpOp_step rfl fun K' hK' => ?_
      rw [if_pos (wanted_plain rfl)]
      unfold Oper.wp
      simp only [execOp]
      go_simp
      exact hK' _ _ ⟨_, rfl, Below.refl _ _, rfl⟩
     | 4, _ =>
      obtain ⟨s0, r0, _⟩ := hw 3 (by omega) (by kernel_rfl)
      have e0 : v 3 = .pointer (some ⟨g, 3, none⟩) := r0
      rw [e0] at s0
      replace s0 : a.tmps[50]? = some (.pointer (some ⟨g, 3, none⟩)) := s0
      have cc := (hb.cell (p := ⟨g, 3, none⟩) HG5.out).trans D03.out
      have cd := (hb.cell (p := ⟨g, 4, none⟩) HG5.out).trans D04.out
      refine wpOp_step rfl fun K' hK' => ?_
      rw [if_pos (wanted_plain rfl)]
      unfold Oper.wp
      simp only [execOp]
      go_simp
      exact hK' _ _ ⟨_, rfl, Below.refl _ _, rfl⟩
     | 5, _ =>
      exact gw_move rfl (wanted_plain rfl) 5 _ rfl sl5 ⟨_, rfl, Below.refl _ _, rfl⟩
     | 6, _ =>
      obtain ⟨s0, r0, _⟩ := hw 5 (by omega) (by kernel_rfl)
      have e0 : v 5 = .slice (some ⟨g, 0, none⟩) (N + 1) (N + 1) := r0
      rw [e0] at s0
      replace s0 : a.tmps[52]? = some (.slice (some ⟨g, 0, none⟩) (N + 1) (N + 1)) := s0
      exact gw_sl1O rfl (wanted_plain rfl) 52 g 0 N (N + 1) rfl s0 ⟨_, rfl, Below.refl _ _, rfl⟩
    case mid =>
     intro a w8 v lo hi' hoth hb hw
     obtain ⟨s0, r0, _⟩ := hw 0 (by omega) (by kernel_rfl)
     have e0 : v 0 = .pointer (some ⟨gu, 0, none⟩) := r0
     rw [e0] at s0
     replace s0 : a.tmps[47]? = some (.pointer (some ⟨gu, 0, none⟩)) := s0
     obtain ⟨s1, r1, _⟩ := hw 4 (by omega) (by kernel_rfl)
     have e1 : v 4 = .agg #[.string s.1, .string s.2] := r1
     rw [e1] at s1
     replace s1 : a.tmps[51]? = some (.agg #[.string s.1, .string s.2]) := s1
     obtain ⟨s2, r2, _⟩ := hw 6 (by omega) (by kernel_rfl)
     have e2 : v 6 = .slice (if N + 1 = 1 then some ⟨g, 0, none⟩ else some ⟨g, 0 + 7, none⟩) N (N + 1 - 1) := r2
     rw [e2] at s2
     replace s2 : a.tmps[53]? = some (.slice (if N + 1 = 1 then some ⟨g, 0, none⟩ else some ⟨g, 0 + 7, none⟩) N (N + 1 - 1)) := s2
     refine gw_ttt rfl (wanted_plain rfl) 116 47 51 53 _ _ _ _ rfl (fun v u x w => by go_simp) s0 s1 s2 ?_
     with_reducible refine (CALL.out w8 hb).mono ?_
     rintro e w4 ⟨cs4, rfl, h1, h2, h3⟩
     exact ⟨_, rfl, _, rfl, cs4, rfl, h1.more (fun b hb0 => by
      rcases hb0 with h | h
      · exact .inl h
      · exact .inr ⟨by have := hb.size; omega, h.2⟩), h2, KpU.trans (below_kpU gu hb) h3⟩
    case stepL =>
     intro ii hii hl a w1 w9 v lo hi' hoth hw
     have sl0 : a.tmps[0]? = some (.pointer (some ⟨gu, 0, none⟩)) := (hoth 0 (fun j hj => by
      have := ne_getD 0 [47, 48, 49, 50, 51, 52, 53] (by decide) j hj
      exact this) (by omega)).trans rfl
     have sl5 : a.tmps[5]? = some (.slice (some ⟨g, 0, none⟩) (N + 1) (N + 1)) := (hoth 5 (fun j hj => by
      have := ne_getD 5 [47, 48, 49, 50, 51, 52, 53] (by decide) j hj
      exact this) (by omega)).trans rfl
     match ii, hii with
     | 0, _ => exact absurd hl (by decide)
     | 1, _ =>
      exact gw_move rfl (wanted_plain rfl) 5 _ rfl sl5 ⟨_, rfl, rfl, rfl⟩
     | 2, _ =>
      obtain ⟨s0, r0⟩ := hw 1 (by omega) (by kernel_rfl)
      have e0 : v 1 = .slice (some ⟨g, 0, none⟩) (N + 1) (N + 1) := r0
      rw [e0] at s0
      replace s0 : a.tmps[48]? = some (.slice (some ⟨g, 0, none⟩) (N + 1) (N + 1)) := s0
      have hn1 : (0 : Int) < ((N + 1 : Nat) : Int) := by omega
      refine wpOp_step rfl fun K' hK' => ?_
      rw [if_pos (wanted_plain rfl)]
      unfold Oper.wp
      simp only [execOp]
      go_simp
      exact hK' _ _ ⟨_, rfl, rfl, rfl⟩
     | 3, _ =>
      obtain ⟨s0, r0⟩ := hw 2 (by omega) (by kernel_rfl)
      have e0 : v 2 = .pointer (some ⟨g, 0, none⟩) := r0
      rw [e0] at s0
      replace s0 : a.tmps[49]? = some (.pointer (some ⟨g, 0, none⟩)) := s0
      refine wpOp_step rfl fun K' hK' => ?_
      rw [if_pos (wanted_plain rfl)]
      unfold Oper.wp
      simp only [execOp]
      go_simp
      exact hK' _ _ ⟨_, rfl, rfl, rfl⟩
     | 4, _ => exact absurd hl (by decide)
     | 5, _ =>
      exact gw_move rfl (wanted_plain rfl) 5 _ rfl sl5 ⟨_, rfl, rfl, rfl⟩
     | 6, _ => exact absurd hl (by decide)
    case done =>
     intro a w7 w4 x v lo hi' hdef hsz hoth hb hj hM
     have ha := eq_puts hdef hsz hoth (fun i hi => (hj i hi).1)
     subst ha
     clear hj hoth hdef hsz
     simp only [puts, List.getD_cons_zero, List.getD_cons_succ]
     generalize v 0 = v0
     generalize v 1 = v1
     generalize v 2 = v2
     generalize v 3 = v3
     generalize v 4 = v4
     generalize v 5 = v5
     generalize v 6 = v6
     simp only [Act.put, List.setIfInBounds_toArray, List.set_cons_zero, List.set_cons_succ]
     show wpList _ _ _ [_] _ _
     obtain ⟨cs4, rfl, ht4, hu4, hk4⟩ := hM
     have O4 := hI ht4.o11
     have hg4 := HGS.out
     have hz9 := HZ9.out
     have h64 : TB w4 (w.heap.size + 1) zT := (hk4.block _ B4.out.lt (by omega)).trans B4.out
     have hk5 := KY.out.trans hk4
     have hu5 : UB w4 gu (L - ((1 + Tm.qns l : Nat) : Int)) := by
      rw [show L - ((1 + Tm.qns l : Nat) : Int) = L - 1 - (Tm.qns l : Int) from by omega]
      exact hu4
     have H4 : Hid (TmAt w4 (Upto w w4 S) (.app s l) cs4) := ht4.more fun q hq => by
      rcases hq with h0 | h0
      · rcases HSX.out q h0 with h | h
        · exact .inl h
        · exact .inr ⟨h.1, by have := hk4.size; omega⟩
      · exact .inr ⟨by omega, h0.2⟩
     clear ht4 hu4 hk4 hb
     go_wp2_with ((with_reducible refine storeTb (cs := cs4) (.tmp 4) (.tmp 54) ?_ ?_ ?_ ?_ (hI h64).out ?_ ?_ ?_ ?_); rfl; rfl; rfl; rfl; rfl; exact O4.out.1; exact O4.out.2)
     exact retTb rfl rfl (h64.set _) O4.out.1 ⟨_, rfl, TmAt.boxed H4.out h64.nb _, hu5.other (by omega), hk5.row (by omega) _⟩
  · go_wp2_with fail
    refine wp_region_growC (l := _) 7 (by kernel_rfl) (by kernel_rfl) (fun i => [47, 48, 49, 50, 51, 52, 53].getD i 0) (LR [LV (.pointer (some ⟨gu, 0, none⟩)), LV (.slice (some ⟨g, 0, none⟩) (N + 1) (N + 1)), LV (.pointer (some ⟨g, 0, none⟩)), LV (.pointer (some ⟨g, 3, none⟩)), LV (.agg #[.string s.1, .string s.2]), LV (.slice (some ⟨g, 0, none⟩) (N + 1) (N + 1)), LV (.slice (if N + 1 = 1 then some ⟨g, 0, none⟩ else some ⟨g, 0 + 7, none⟩) N (N + 1 - 1))]) (LR_mono ⟨mLV _, mLV _, mLV _, mLV _, mLV _, mLV _, mLV _, trivial⟩) (by
     intro i j hi hj h
     exact inj_getD [47, 48, 49, 50, 51, 52, 53] (by decide) i j hi hj h) (by
     intro i hi
     exact lt_getD 63 [47, 48, 49, 50, 51, 52, 53] (by decide) i hi) [1, 2, 3, 5] (by kernel_rfl) 54 (by
     intro i hi
     have := ne_getD 54 [47, 48, 49, 50, 51, 52, 53] (by decide) i hi
     exact fun e => this e.symm) (fun _ w' x => ∃ cs, x = vTm cs ∧ TmAt w' (Upto w9 w' S2) (.app s l) cs ∧ UB w' gu (L - 1 - (Tm.qns l : Int)) ∧ KpU gu w9 w') ?step ?mid ?stepL ?done
    case step =>
     intro ii hii a w9 v lo hi' hoth hb hw
     have sl0 : a.tmps[0]? = some (.pointer (some ⟨gu, 0, none⟩)) := (hoth 0 (fun j hj => ne_getD 0 _ (by decide) j hj)).trans rfl
     have sl5 : a.tmps[5]? = some (.slice (some ⟨g, 0, none⟩) (N + 1) (N + 1)) := (hoth 5 (fun j hj => ne_getD 5 _ (by decide) j hj)).trans rfl
     match ii, hii with
     | 0, _ =>
      exact gw_move rfl (wanted_plain rfl) 0 _ rfl sl0 ⟨_, rfl, Below.refl _ _, rfl⟩
     | 1, _ =>
      exact gw_move rfl (wanted_plain rfl) 5 _ rfl sl5 ⟨_, rfl, Below.refl _ _, rfl⟩
     | 2, _ =>
      obtain ⟨s0, r0, _⟩ := hw 1 (by omega) (by kernel_rfl)
      have e0 : v 1 = .slice (some ⟨g, 0, none⟩) (N + 1) (N + 1) := r0
      rw [e0] at s0
      replace s0 : a.tmps[48]? = some (.slice (some ⟨g, 0, none⟩) (N + 1) (N + 1)) := s0
      have hn1 : (0 : Int) < ((N + 1 : Nat) : Int) := by omega
      refine wpOp_step rfl fun K' hK' => ?_
      rw [if_pos (wanted_plain rfl)]
      unfold Oper.wp
      simp only [execOp]
      go_simp
      exact hK' _ _ ⟨_, rfl, Below.refl _ _, rfl⟩
     | 3, _ =>
      obtain ⟨s0, r0, _⟩ := hw 2 (by omega) (by kernel_rfl)
      have e0 : v 2 = .pointer (some ⟨g, 0, none⟩) := r0
      rw [e0] at s0
      replace s0 : a.tmps[49]? = some (.pointer (some ⟨g, 0, none⟩)) := s0
      refine wpOp_step rfl fun K' hK' => ?_
      rw [if_pos (wanted_plain rfl)]
      unfold Oper.wp
      simp only [execOp]
      go_simp
      exact hK' _ _ ⟨_, rfl, Below.refl _ _, rfl⟩
     | 4, _ =>
      obtain ⟨s0, r0, _⟩ := hw 3 (by omega) (by kernel_rfl)
      have e0 : v 3 = .pointer (some ⟨g, 3, none⟩) := r0
      rw [e0] at s0
      replace s0 : a.tmps[50]? = some (.pointer (some ⟨g, 3, none⟩)) := s0
      have cc := (hb.cell (p := ⟨g, 3, none⟩) HG5.out).trans D03.out
      have cd := (hb.cell (p := ⟨g, 4, none⟩) HG5.out).trans D04.out
      refine wpOp_step rfl fun K' hK' => ?_
      rw [if_pos (wanted_plain rfl)]
      unfold Oper.wp
      simp only [execOp]
      go_simp
      exact hK' _ _ ⟨_, rfl, Below.refl _ _, rfl⟩
     | 5, _ =>
      exact gw_move rfl (wanted_plain rfl) 5 _ rfl sl5 ⟨_, rfl, Below.refl _ _, rfl⟩
     | 6, _ =>
      obtain ⟨s0, r0, _⟩ := hw 5 (by omega) (by kernel_rfl)
      have e0 : v 5 = .slice (some ⟨g, 0, none⟩) (N + 1) (N + 1) := r0
      rw [e0] at s0
      replace s0 : a.tmps[52]? = some (.slice (some ⟨g, 0, none⟩) (N + 1) (N + 1)) := s0
      exact gw_sl1O rfl (wanted_plain rfl) 52 g 0 N (N + 1) rfl s0 ⟨_, rfl, Below.refl _ _, rfl⟩
    case mid =>
     intro a w8 v lo hi' hoth hb hw
     obtain ⟨s0, r0, _⟩ := hw 0 (by omega) (by kernel_rfl)
     have e0 : v 0 = .pointer (some ⟨gu, 0, none⟩) := r0
     rw [e0] at s0
     replace s0 : a.tmps[47]? = some (.pointer (some ⟨gu, 0, none⟩)) := s0
     obtain ⟨s1, r1, _⟩ := hw 4 (by omega) (by kernel_rfl)
     have e1 : v 4 = .agg #[.string s.1, .string s.2] := r1
     rw [e1] at s1
     replace s1 : a.tmps[51]? = some (.agg #[.string s.1, .string s.2]) := s1
     obtain ⟨s2, r2, _⟩ := hw 6 (by omega) (by kernel_rfl)
     have e2 : v 6 = .slice (if N + 1 = 1 then some ⟨g, 0, none⟩ else some ⟨g, 0 + 7, none⟩) N (N + 1 - 1) := r2
     rw [e2] at s2
     replace s2 : a.tmps[53]? = some (.slice (if N + 1 = 1 then some ⟨g, 0, none⟩ else some ⟨g, 0 + 7, none⟩) N (N + 1 - 1)) := s2
     refine gw_ttt rfl (wanted_plain rfl) 116 47 51 53 _ _ _ _ rfl (fun v u x w => by go_simp) s0 s1 s2 ?_
     with_reducible refine (CALL.out w8 hb).mono ?_
     rintro e w4 ⟨cs4, rfl, h1, h2, h3⟩
     exact ⟨_, rfl, _, rfl, cs4, rfl, h1.more (fun b hb0 => by
      rcases hb0 with h | h
      · exact .inl h
      · exact .inr ⟨by have := hb.size; omega, h.2⟩), h2, KpU.trans (below_kpU gu hb) h3⟩
    case stepL =>
     intro ii hii hl a w1 w9 v lo hi' hoth hw
     have sl0 : a.tmps[0]? = some (.pointer (some ⟨gu, 0, none⟩)) := (hoth 0 (fun j hj => by
      have := ne_getD 0 [47, 48, 49, 50, 51, 52, 53] (by decide) j hj
      exact this) (by omega)).trans rfl
     have sl5 : a.tmps[5]? = some (.slice (some ⟨g, 0, none⟩) (N + 1) (N + 1)) := (hoth 5 (fun j hj => by
      have := ne_getD 5 [47, 48, 49, 50, 51, 52, 53] (by decide) j hj
      exact this) (by omega)).trans rfl
     match ii, hii with
     | 0, _ => exact absurd hl (by decide)
     | 1, _ =>
      exact gw_move rfl (wanted_plain rfl) 5 _ rfl sl5 ⟨_, rfl, rfl, rfl⟩
     | 2, _ =>
      obtain ⟨s0, r0⟩ := hw 1 (by omega) (by kernel_rfl)
      have e0 : v 1 = .slice (some ⟨g, 0, none⟩) (N + 1) (N + 1) := r0
      rw [e0] at s0
      replace s0 : a.tmps[48]? = some (.slice (some ⟨g, 0, none⟩) (N + 1) (N + 1)) := s0
      have hn1 : (0 : Int) < ((N + 1 : Nat) : Int) := by omega
      refine wpOp_step rfl fun K' hK' => ?_
      rw [if_pos (wanted_plain rfl)]
      unfold Oper.wp
      simp only [execOp]
      go_simp
      exact hK' _ _ ⟨_, rfl, rfl, rfl⟩
     | 3, _ =>
      obtain ⟨s0, r0⟩ := hw 2 (by omega) (by kernel_rfl)
      have e0 : v 2 = .pointer (some ⟨g, 0, none⟩) := r0
      rw [e0] at s0
      replace s0 : a.tmps[49]? = some (.pointer (some ⟨g, 0, none⟩)) := s0
      refine wpOp_step rfl fun K' hK' => ?_
      rw [if_pos (wanted_plain rfl)]
      unfold Oper.wp
      simp only [execOp]
      go_simp
      exact hK' _ _ ⟨_, rfl, rfl, rfl⟩
     | 4, _ => exact absurd hl (by decide)
     | 5, _ =>
      exact gw_move rfl (wanted_plain rfl) 5 _ rfl sl5 ⟨_, rfl, rfl, rfl⟩
     | 6, _ => exact absurd hl (by decide)
    case done =>
     intro a w7 w4 x v lo hi' hdef hsz hoth hb hj hM
     have ha := eq_puts hdef hsz hoth (fun i hi => (hj i hi).1)
     subst ha
     clear hj hoth hdef hsz
     simp only [puts, List.getD_cons_zero, List.getD_cons_succ]
     generalize v 0 = v0
     generalize v 1 = v1
     generalize v 2 = v2
     generalize v 3 = v3
     generalize v 4 = v4
     generalize v 5 = v5
     generalize v 6 = v6
     simp only [Act.put, List.setIfInBounds_toArray, List.set_cons_zero, List.set_cons_succ]
     show wpList _ _ _ [_] _ _
     obtain ⟨cs4, rfl, ht4, hu4, hk4⟩ := hM
     have O4 := hI ht4.o11
     have hg4 := HGS.out
     have hz9 := HZ9.out
     have h64 : TB w4 (w.heap.size + 1) zT := (hk4.block _ B4.out.lt (by omega)).trans B4.out
     have hk5 := KY.out.trans hk4
     have hu5 : UB w4 gu (L - ((1 + Tm.qns l : Nat) : Int)) := by
      rw [show L - ((1 + Tm.qns l : Nat) : Int) = L - 1 - (Tm.qns l : Int) from by omega]
      exact hu4
     have H4 : Hid (TmAt w4 (Upto w w4 S) (.app s l) cs4) := ht4.more fun q hq => by
      rcases hq with h0 | h0
      · rcases HSX.out q h0 with h | h
        · exact .inl h
        · exact .inr ⟨h.1, by have := hk4.size; omega⟩
      · exact .inr ⟨by omega, h0.2⟩
     clear ht4 hu4 hk4 hb
     go_wp2_with ((with_reducible refine storeTb (cs := cs4) (.tmp 4) (.tmp 54) ?_ ?_ ?_ ?_ (hI h64).out ?_ ?_ ?_ ?_); rfl; rfl; rfl; rfl; rfl; exact O4.out.1; exact O4.out.2)
     exact retTb rfl rfl (h64.set _) O4.out.1 ⟨_, rfl, TmAt.boxed H4.out h64.nb _, hu5.other (by omega), hk5.row (by omega) _⟩
theorem Ob.nodes_mem : ∀ {l : List Ob} {x : Ob}, x ∈ l → x.nodes ≤ (Ob.list l).nodes
 | y :: l, x, h => by
  show _ ≤ (Ob.cons y (Ob.list l)).nodes
  simp only [Ob.nodes]
  rcases List.mem_cons.1 h with rfl | h
  · omega
  · have := Ob.nodes_mem h
    omega
theorem unqT : ∀ (t : Tm), t.qok → (quO t).nodes ≤ 100000 → ∀ (gu : Nat) (p : Value) (L : Int) (w : World) (S : Nat → Prop), In S w → ¬ S gu → gu < w.heap.size → UB w gu L → (t.qn : Int) ≤ L → L ≤ 3000 → Pair w S (quO t) p → Calls Tryz.prog 90 #[.pointer (some ⟨gu, 0, none⟩), vO (quO t) p] w (RetUq w S gu t t.qn L) := by
 intro t
 induction t using Tm.indA with
 | h t ih =>
  intro hq hno gu p L w S hS hgS hgw hU h1 h2 hp
  cases t with
  | var s =>
   have h := unqVar s gu p L w S hS hgS hgw hU (by simpa [Tm.qn] using h1) h2
   unfold vO
   show Calls _ _ #[_, .agg #[.int .i64 2, _, _, .string (BA (LA s.1)), .string (BA (LA s.2)), _, p]] _ _
   rw [BA_LA, BA_LA]
   exact h
  | con o => exact unqCon o gu p L w S hS hgS hgw hU (by simpa [Tm.qn] using h1) h2 hp hno
  | app s l =>
   unfold Tm.qok at hq
   have e : quO (.app s l) = Ob.list (.sym (LA s.1) (LA s.2) :: l.map quO) := by rw [← quOs_map]; rfl
   rw [e] at hp hno
   exact unqApp s l gu p L w S hS hgS hgw hU (by simpa [Tm.qn] using h1) h2 hp hno hq.1 hq.2.1 (fun x hx W q M S' hI hg hgw hP hU hM hM2 => ih x hx (Tm.qoks_mem hq.2.2 x hx) (Nat.le_trans (Ob.nodes_mem (List.mem_cons_of_mem _ (List.mem_map_of_mem hx))) hno) gu q M W S' hI hg hgw hU hM hM2 hP)
theorem unquoteTop (t : Tm) (p : Value) (w : World) (S : Nat → Prop) (hS : In S w) (hp : Pair w S (quO t) p) (hq : t.qok) (hwf : wfT t = true) (hn : t.nodes ≤ 3000) (hd : t.dep ≤ 200) (hbd : t.bd 90) (hbo : (quO t).bd 1000) (hno : (quO t).nodes ≤ 3000) :
 Calls Tryz.prog 52 #[vO (quO t) p] w (RetTB w S t true) := by
 obtain ⟨x0, x1, x2, x3, x4, x5, ec⟩ := cells7 (quO t) p
 have eo : vO (quO t) p = .agg #[x0, x1, x2, x3, x4, x5, p] := by unfold vO; rw [ec]
 have hA : Below w.heap.size w (((w.alloc (.cells #[x0, x1, x2, x3, x4, x5, p] 33)).alloc (.cells #[.int .i64 0, .string ⟨#[]⟩, .string ⟨#[]⟩, .int .i64 0, .string ⟨#[]⟩, .string ⟨#[]⟩, .string ⟨#[]⟩, .string ⟨#[]⟩, .string ⟨#[]⟩, .slice none 0 0, .slice none 0 0] 35)).alloc (.cells #[.int .i64 3000] 114)) := Below.alloc (Below.alloc (Below.alloc (Below.refl _ _) (Nat.le_refl _) _) (by simp) _) (by simp <;> omega) _
 have hz : (((w.alloc (.cells #[x0, x1, x2, x3, x4, x5, p] 33)).alloc (.cells #[.int .i64 0, .string ⟨#[]⟩, .string ⟨#[]⟩, .int .i64 0, .string ⟨#[]⟩, .string ⟨#[]⟩, .string ⟨#[]⟩, .string ⟨#[]⟩, .string ⟨#[]⟩, .slice none 0 0, .slice none 0 0] 35)).alloc (.cells #[.int .i64 3000] 114)).heap.size = w.heap.size + 3 := by simp
 have UW : UB (((w.alloc (.cells #[x0, x1, x2, x3, x4, x5, p] 33)).alloc (.cells #[.int .i64 0, .string ⟨#[]⟩, .string ⟨#[]⟩, .int .i64 0, .string ⟨#[]⟩, .string ⟨#[]⟩, .string ⟨#[]⟩, .string ⟨#[]⟩, .string ⟨#[]⟩, .slice none 0 0, .slice none 0 0] 35)).alloc (.cells #[.int .i64 3000] 114)) (w.heap.size + 1 + 1) 3000 := heap_new_at (by simp)
 have HG : Hid (¬ S (w.heap.size + 1 + 1)) := (show ¬ _ from fun h => by have := hS _ h; omega)
 have CT : Hid (Calls Tryz.prog 90 #[.pointer (some ⟨w.heap.size + 1 + 1, 0, none⟩), .agg #[x0, x1, x2, x3, x4, x5, p]] (((w.alloc (.cells #[x0, x1, x2, x3, x4, x5, p] 33)).alloc (.cells #[.int .i64 0, .string ⟨#[]⟩, .string ⟨#[]⟩, .int .i64 0, .string ⟨#[]⟩, .string ⟨#[]⟩, .string ⟨#[]⟩, .string ⟨#[]⟩, .string ⟨#[]⟩, .slice none 0 0, .slice none 0 0] 35)).alloc (.cells #[.int .i64 3000] 114)) (RetUq (((w.alloc (.cells #[x0, x1, x2, x3, x4, x5, p] 33)).alloc (.cells #[.int .i64 0, .string ⟨#[]⟩, .string ⟨#[]⟩, .int .i64 0, .string ⟨#[]⟩, .string ⟨#[]⟩, .string ⟨#[]⟩, .string ⟨#[]⟩, .string ⟨#[]⟩, .slice none 0 0, .slice none 0 0] 35)).alloc (.cells #[.int .i64 3000] 114)) S (w.heap.size + 1 + 1) t t.qn 3000)) := (show Calls _ _ _ _ _ by
  have h := unqT t hq (by omega) (w.heap.size + 1 + 1) p 3000 (((w.alloc (.cells #[x0, x1, x2, x3, x4, x5, p] 33)).alloc (.cells #[.int .i64 0, .string ⟨#[]⟩, .string ⟨#[]⟩, .int .i64 0, .string ⟨#[]⟩, .string ⟨#[]⟩, .string ⟨#[]⟩, .string ⟨#[]⟩, .string ⟨#[]⟩, .slice none 0 0, .slice none 0 0] 35)).alloc (.cells #[.int .i64 3000] 114)) S (hS.later hA.size) HG.out (by omega) UW (by have := t.qn_nodes; omega) (by omega) (hp.below hS hA)
  rw [eo] at h
  exact h)
 have B1 : Hid (Bx (((w.alloc (.cells #[x0, x1, x2, x3, x4, x5, p] 33)).alloc (.cells #[.int .i64 0, .string ⟨#[]⟩, .string ⟨#[]⟩, .int .i64 0, .string ⟨#[]⟩, .string ⟨#[]⟩, .string ⟨#[]⟩, .string ⟨#[]⟩, .string ⟨#[]⟩, .slice none 0 0, .slice none 0 0] 35)).alloc (.cells #[.int .i64 3000] 114)) w.heap.size #[x0, x1, x2, x3, x4, x5, p]) := (Below.heap_alloc _ _ _ (by simp <;> omega)).trans ((Below.heap_alloc _ _ _ (by simp)).trans (heap_alloc_new w _))
 have B2 : Hid (TB (((w.alloc (.cells #[x0, x1, x2, x3, x4, x5, p] 33)).alloc (.cells #[.int .i64 0, .string ⟨#[]⟩, .string ⟨#[]⟩, .int .i64 0, .string ⟨#[]⟩, .string ⟨#[]⟩, .string ⟨#[]⟩, .string ⟨#[]⟩, .string ⟨#[]⟩, .slice none 0 0, .slice none 0 0] 35)).alloc (.cells #[.int .i64 3000] 114)) (w.heap.size + 1) zT) := (Below.heap_alloc _ _ _ (by simp <;> omega)).trans (heap_new_at (by simp))
 have HEO := hI eo
 have HA := hI hA
 have HZ := hI hz
 have HS := hI hS
 have HP := hI (hp.below hS hA)
 rw [eo]
 clear eo ec hA hz UW hS hp
 obtain ⟨OO, hOO⟩ : ∃ OO, quO t = OO := ⟨_, rfl⟩
 rw [hOO] at HEO HP hbo hno
 go_enter Tryz.func52, Tryz.ntmps52
 go_upto_region 2 with fail
 generalize (((w.alloc (.cells #[x0, x1, x2, x3, x4, x5, p] 33)).alloc (.cells #[.int .i64 0, .string ⟨#[]⟩, .string ⟨#[]⟩, .int .i64 0, .string ⟨#[]⟩, .string ⟨#[]⟩, .string ⟨#[]⟩, .string ⟨#[]⟩, .string ⟨#[]⟩, .slice none 0 0, .slice none 0 0] 35)).alloc (.cells #[.int .i64 3000] 114)) = Y at *
 obtain ⟨b0, b1, b2, b3, b4, b5, b6⟩ := B1.out.c
 go_wp2_with fail
 refine CT.out.mono ?_
 rintro e w4 ⟨cs4, rfl, ht4, hu4, hk4⟩
 have O4 := hI ht4.o11
 obtain ⟨u0, u1, u2, u3, u4, u5, u6, A7, c7, rfl, _, _⟩ := ht4.eleven
 have hzy := HZ.out
 have hk4s := hk4.size
 have hV : Below w4.heap.size w4 ((w4.alloc (.cells #[.int .i64 0, .string ⟨#[]⟩, .string ⟨#[]⟩, .int .i64 0, .string ⟨#[]⟩, .string ⟨#[]⟩, .string ⟨#[]⟩, .string ⟨#[]⟩, .string ⟨#[]⟩, .slice none 0 0, .slice none 0 0] 35)).setRow w4.heap.size #[.int .i64 t.kd, .string t.nm.1, .string t.nm.2, u0, u1, u2, u3, u4, u5, u6, .slice A7 t.args.length c7]) := below_setRowO (below_alT w4 _) (Nat.le_refl _) _
 have hvs := hV.size
 replace B1 : Hid (Bx ((w4.alloc (.cells #[.int .i64 0, .string ⟨#[]⟩, .string ⟨#[]⟩, .int .i64 0, .string ⟨#[]⟩, .string ⟨#[]⟩, .string ⟨#[]⟩, .string ⟨#[]⟩, .string ⟨#[]⟩, .slice none 0 0, .slice none 0 0] 35)).setRow w4.heap.size #[.int .i64 t.kd, .string t.nm.1, .string t.nm.2, u0, u1, u2, u3, u4, u5, u6, .slice A7 t.args.length c7]) w.heap.size #[x0, x1, x2, x3, x4, x5, p]) := (hV.block _ (by omega)).trans ((hk4.block _ (by omega) (by omega)).trans B1.out)
 replace B2 : Hid (TB ((w4.alloc (.cells #[.int .i64 0, .string ⟨#[]⟩, .string ⟨#[]⟩, .int .i64 0, .string ⟨#[]⟩, .string ⟨#[]⟩, .string ⟨#[]⟩, .string ⟨#[]⟩, .string ⟨#[]⟩, .slice none 0 0, .slice none 0 0] 35)).setRow w4.heap.size #[.int .i64 t.kd, .string t.nm.1, .string t.nm.2, u0, u1, u2, u3, u4, u5, u6, .slice A7 t.args.length c7]) (w.heap.size + 1) zT) := (hV.block _ (by omega)).trans ((hk4.block _ (by omega) (by omega)).trans B2.out)
 have T5 : Hid (TB ((w4.alloc (.cells #[.int .i64 0, .string ⟨#[]⟩, .string ⟨#[]⟩, .int .i64 0, .string ⟨#[]⟩, .string ⟨#[]⟩, .string ⟨#[]⟩, .string ⟨#[]⟩, .string ⟨#[]⟩, .slice none 0 0, .slice none 0 0] 35)).setRow w4.heap.size #[.int .i64 t.kd, .string t.nm.1, .string t.nm.2, u0, u1, u2, u3, u4, u5, u6, .slice A7 t.args.length c7]) w4.heap.size [.int .i64 t.kd, .string t.nm.1, .string t.nm.2, u0, u1, u2, u3, u4, u5, u6, .slice A7 t.args.length c7]) := setRow_heap _ _ _ _ _ _ (heap_alloc_new w4 _)
 have HT4 : Hid (TmAt ((w4.alloc (.cells #[.int .i64 0, .string ⟨#[]⟩, .string ⟨#[]⟩, .int .i64 0, .string ⟨#[]⟩, .string ⟨#[]⟩, .string ⟨#[]⟩, .string ⟨#[]⟩, .string ⟨#[]⟩, .slice none 0 0, .slice none 0 0] 35)).setRow w4.heap.size #[.int .i64 t.kd, .string t.nm.1, .string t.nm.2, u0, u1, u2, u3, u4, u5, u6, .slice A7 t.args.length c7]) (Upto w w4 S) t [.int .i64 t.kd, .string t.nm.1, .string t.nm.2, u0, u1, u2, u3, u4, u5, u6, .slice A7 t.args.length c7]) := TmAt.keep (fun b hb => by
  rcases hb with h | h
  · exact .inl h
  · exact .inr ⟨by omega, h.2⟩) (fun b hb => hV.block b (by
  rcases hb with h | h
  · have := HS.out b h; omega
  · exact h.2)) _ _ ht4
 have hup : ∀ b, Upto w w4 S b → b < w4.heap.size := fun b hb => by
  rcases hb with h | h
  · have := HS.out b h; omega
  · exact h.2
 have HUP := hI hup
 have HTV : Hid (TmAt ((w4.alloc (.cells #[.int .i64 0, .string ⟨#[]⟩, .string ⟨#[]⟩, .int .i64 0, .string ⟨#[]⟩, .string ⟨#[]⟩, .string ⟨#[]⟩, .string ⟨#[]⟩, .string ⟨#[]⟩, .slice none 0 0, .slice none 0 0] 35)).setRow w4.heap.size #[.int .i64 t.kd, .string t.nm.1, .string t.nm.2, u0, u1, u2, u3, u4, u5, u6, .slice A7 t.args.length c7]) (Has ((w4.alloc (.cells #[.int .i64 0, .string ⟨#[]⟩, .string ⟨#[]⟩, .int .i64 0, .string ⟨#[]⟩, .string ⟨#[]⟩, .string ⟨#[]⟩, .string ⟨#[]⟩, .string ⟨#[]⟩, .slice none 0 0, .slice none 0 0] 35)).setRow w4.heap.size #[.int .i64 t.kd, .string t.nm.1, .string t.nm.2, u0, u1, u2, u3, u4, u5, u6, .slice A7 t.args.length c7])) t [.int .i64 t.kd, .string t.nm.1, .string t.nm.2, u0, u1, u2, u3, u4, u5, u6, .slice A7 t.args.length c7]) := HT4.out.more fun b hb => Nat.lt_of_lt_of_le (hup b hb) hvs
 have HPV : Hid (Pair ((w4.alloc (.cells #[.int .i64 0, .string ⟨#[]⟩, .string ⟨#[]⟩, .int .i64 0, .string ⟨#[]⟩, .string ⟨#[]⟩, .string ⟨#[]⟩, .string ⟨#[]⟩, .string ⟨#[]⟩, .slice none 0 0, .slice none 0 0] 35)).setRow w4.heap.size #[.int .i64 t.kd, .string t.nm.1, .string t.nm.2, u0, u1, u2, u3, u4, u5, u6, .slice A7 t.args.length c7]) (Has ((w4.alloc (.cells #[.int .i64 0, .string ⟨#[]⟩, .string ⟨#[]⟩, .int .i64 0, .string ⟨#[]⟩, .string ⟨#[]⟩, .string ⟨#[]⟩, .string ⟨#[]⟩, .string ⟨#[]⟩, .slice none 0 0, .slice none 0 0] 35)).setRow w4.heap.size #[.int .i64 t.kd, .string t.nm.1, .string t.nm.2, u0, u1, u2, u3, u4, u5, u6, .slice A7 t.args.length c7])) OO p) := HP.out.keep (fun b hb => (show b < _ from by have := HS.out b hb; omega)) (fun b hb => (hV.block b (by have := HS.out b hb; omega)).trans (hk4.block b (by have := HS.out b hb; omega) (fun e => HG.out (e ▸ hb))))
 have HBV : Hid (Below w.heap.size w ((w4.alloc (.cells #[.int .i64 0, .string ⟨#[]⟩, .string ⟨#[]⟩, .int .i64 0, .string ⟨#[]⟩, .string ⟨#[]⟩, .string ⟨#[]⟩, .string ⟨#[]⟩, .string ⟨#[]⟩, .slice none 0 0, .slice none 0 0] 35)).setRow w4.heap.size #[.int .i64 t.kd, .string t.nm.1, .string t.nm.2, u0, u1, u2, u3, u4, u5, u6, .slice A7 t.args.length c7])) := (hk4.below HA.out (by omega)).trans (hV.mono (by omega))
 have HVS : Hid (w.heap.size + 3 ≤ w4.heap.size ∧ w4.heap.size < ((w4.alloc (.cells #[.int .i64 0, .string ⟨#[]⟩, .string ⟨#[]⟩, .int .i64 0, .string ⟨#[]⟩, .string ⟨#[]⟩, .string ⟨#[]⟩, .string ⟨#[]⟩, .string ⟨#[]⟩, .slice none 0 0, .slice none 0 0] 35)).setRow w4.heap.size #[.int .i64 t.kd, .string t.nm.1, .string t.nm.2, u0, u1, u2, u3, u4, u5, u6, .slice A7 t.args.length c7]).heap.size) := ⟨by omega, by simp⟩
 clear ht4 hu4 hk4 hzy hk4s hV hvs hup HA HZ HP HG CT HS
 have TN : TB (w4.alloc (.cells #[.int .i64 0, .string ⟨#[]⟩, .string ⟨#[]⟩, .int .i64 0, .string ⟨#[]⟩, .string ⟨#[]⟩, .string ⟨#[]⟩, .string ⟨#[]⟩, .string ⟨#[]⟩, .slice none 0 0, .slice none 0 0] 35)) w4.heap.size zT := TB.new w4 zT
 unfold vTm
 go_wp2_with ((with_reducible refine storeTb (cs := [.int .i64 t.kd, .string t.nm.1, .string t.nm.2, u0, u1, u2, u3, u4, u5, u6, .slice A7 t.args.length c7]) (.tmp 5) (.tmp 8) ?_ ?_ ?_ ?_ (hI TN).out ?_ ?_ ?_ ?_); rfl; rfl; rfl; rfl; rfl; exact O4.out.1; exact O4.out.2)
 generalize ((w4.alloc (.cells #[.int .i64 0, .string ⟨#[]⟩, .string ⟨#[]⟩, .int .i64 0, .string ⟨#[]⟩, .string ⟨#[]⟩, .string ⟨#[]⟩, .string ⟨#[]⟩, .string ⟨#[]⟩, .slice none 0 0, .slice none 0 0] 35)).setRow w4.heap.size #[.int .i64 t.kd, .string t.nm.1, .string t.nm.2, u0, u1, u2, u3, u4, u5, u6, .slice A7 t.args.length c7]) = V at *
 generalize w4.heap.size = g5 at *
 have CV : Hid (∀ W, Below V.heap.size V W → Calls Tryz.prog 56 #[.agg #[.int .i64 t.kd, .string t.nm.1, .string t.nm.2, u0, u1, u2, u3, u4, u5, u6, .slice A7 t.args.length c7]] W (RetB W true)) := (show ∀ _, _ from fun W hW => by
  have h := validT t [.int .i64 t.kd, .string t.nm.1, .string t.nm.2, u0, u1, u2, u3, u4, u5, u6, .slice A7 t.args.length c7] W (Has V) ((In.has V).later hW.size) (HTV.out.below (In.has V) hW) hn hd hbd
  rw [hwf] at h
  exact h)
 have CQ : Hid (∀ W, Below V.heap.size V W → Calls Tryz.prog 51 #[.agg #[.int .i64 t.kd, .string t.nm.1, .string t.nm.2, u0, u1, u2, u3, u4, u5, u6, .slice A7 t.args.length c7]] W (RetO W (Has V) OO)) := (show ∀ _, _ from fun W hW => by
  have h := quoteTop t [.int .i64 t.kd, .string t.nm.1, .string t.nm.2, u0, u1, u2, u3, u4, u5, u6, .slice A7 t.args.length c7] W (Has V) ((In.has V).later hW.size) (HTV.out.below (In.has V) hW) hn
  rw [hOO] at h
  exact h)
 have EQC : Hid (∀ W p0, Below V.heap.size V W → Pair W (Upto V W (Has V)) OO p0 → Calls Tryz.prog 91 #[vO OO p0, vO OO p] W (RetB W true)) := (show ∀ _, _ from fun W p0 hW h0 => by
  have h := equalP 1000 (Nat.le_refl _) OO OO p0 p W (Upto V W (Has V)) ((In.has V).upto hW.size) h0 ((HPV.out.below (In.has V) hW).more fun b hb => .inl hb) hbo hbo hno
  rw [decide_eq_true rfl] at h
  exact h)
 clear hn hd hbd hbo hno hwf hq hOO HPV HTV
 refine wp_region_grow (l := _) 9 (by kernel_rfl) (by kernel_rfl) (fun i => [9, 10, 11, 12, 13, 14, 15, 16, 17].getD i 0) (LR [LV (.agg #[.int .i64 t.kd, .string t.nm.1, .string t.nm.2, u0, u1, u2, u3, u4, u5, u6, .slice A7 t.args.length c7]), LV (.bool true), LV (.bool false), LV (.bool false), LV (.agg #[.int .i64 t.kd, .string t.nm.1, .string t.nm.2, u0, u1, u2, u3, u4, u5, u6, .slice A7 t.args.length c7]), LQ V (Has V) OO, LV (.agg #[x0, x1, x2, x3, x4, x5, p]), LV (.bool true), LV (.bool false)]) (LR_mono ⟨mLV _, mLV _, mLV _, mLV _, mLV _, mLQ (In.has V) _, mLV _, mLV _, mLV _, trivial⟩) (by
  intro i j hi hj h
  exact inj_getD [9, 10, 11, 12, 13, 14, 15, 16, 17] (by decide) i j hi hj h) (by
  intro i hi
  exact lt_getD 21 [9, 10, 11, 12, 13, 14, 15, 16, 17] (by decide) i hi) ?step ?done
 case step =>
  intro ii hii a w9 v lo hi' hoth hb hw
  have sl5 : a.tmps[5]? = some (.pointer (some ⟨g5, 0, none⟩)) := (hoth 5 (fun j hj => ne_getD 5 _ (by decide) j hj)).trans rfl
  have sl1 : a.tmps[1]? = some (.pointer (some ⟨w.heap.size, 0, none⟩)) := (hoth 1 (fun j hj => ne_getD 1 _ (by decide) j hj)).trans rfl
  match ii, hii with
  | 0, _ =>
   have ck0 : w9.cell? ⟨g5, 0, none⟩ = _ := TB.cell (T5.out.keep hb) 0 _ rfl
   have ck1 : w9.cell? ⟨g5, 1, none⟩ = _ := TB.cell (T5.out.keep hb) 1 _ rfl
   have ck2 : w9.cell? ⟨g5, 2, none⟩ = _ := TB.cell (T5.out.keep hb) 2 _ rfl
   have ck3 : w9.cell? ⟨g5, 3, none⟩ = _ := TB.cell (T5.out.keep hb) 3 _ rfl
   have ck4 : w9.cell? ⟨g5, 4, none⟩ = _ := TB.cell (T5.out.keep hb) 4 _ rfl
   have ck5 : w9.cell? ⟨g5, 5, none⟩ = _ := TB.cell (T5.out.keep hb) 5 _ rfl
   have ck6 : w9.cell? ⟨g5, 6, none⟩ = _ := TB.cell (T5.out.keep hb) 6 _ rfl
   have ck7 : w9.cell? ⟨g5, 7, none⟩ = _ := TB.cell (T5.out.keep hb) 7 _ rfl
   have ck8 : w9.cell? ⟨g5, 8, none⟩ = _ := TB.cell (T5.out.keep hb) 8 _ rfl
   have ck9 : w9.cell? ⟨g5, 9, none⟩ = _ := TB.cell (T5.out.keep hb) 9 _ rfl
   have ck10 : w9.cell? ⟨g5, 10, none⟩ = _ := TB.cell (T5.out.keep hb) 10 _ rfl
   refine wpOp_step rfl fun K' hK' => ?_
   rw [if_pos (wanted_plain rfl)]
   unfold Oper.wp
   simp only [execOp]
   go_simp
   exact hK' _ _ ⟨_, rfl, Below.refl _ _, rfl⟩
  | 1, _ =>
   obtain ⟨s0, r0, _⟩ := hw 0 (by omega) (by kernel_rfl)
   have e0 : v 0 = .agg #[.int .i64 t.kd, .string t.nm.1, .string t.nm.2, u0, u1, u2, u3, u4, u5, u6, .slice A7 t.args.length c7] := r0
   rw [e0] at s0
   replace s0 : a.tmps[9]? = some (.agg #[.int .i64 t.kd, .string t.nm.1, .string t.nm.2, u0, u1, u2, u3, u4, u5, u6, .slice A7 t.args.length c7]) := s0
   refine gw_t rfl (wanted_plain rfl) 56 9 _ _ rfl (fun v w => by go_simp) s0 ?_
   with_reducible refine (CV.out w9 hb).mono ?_
   rintro e w3 ⟨rfl, hb3⟩
   exact ⟨_, rfl, _, rfl, hb3, rfl⟩
  | 2, _ =>
   obtain ⟨s0, r0, _⟩ := hw 1 (by omega) (by kernel_rfl)
   have e0 : v 1 = .bool true := r0
   rw [e0] at s0
   replace s0 : a.tmps[10]? = some (.bool true) := s0
   refine wpOp_step rfl fun K' hK' => ?_
   rw [if_pos (wanted_plain rfl)]
   unfold Oper.wp
   simp only [execOp]
   go_simp
   exact hK' _ _ ⟨_, rfl, Below.refl _ _, rfl⟩
  | 3, _ =>
   obtain ⟨s0, r0, _⟩ := hw 2 (by omega) (by kernel_rfl)
   have e0 : v 2 = .bool false := r0
   rw [e0] at s0
   replace s0 : a.tmps[11]? = some (.bool false) := s0
   exact gw_move rfl (wanted_plain rfl) 11 _ rfl s0 ⟨_, rfl, Below.refl _ _, rfl⟩
  | 4, _ =>
   obtain ⟨s9, r9, _⟩ := hw 3 (by omega) (by kernel_rfl)
   have e9 : v 3 = .bool false := r9
   rw [e9] at s9
   replace s9 : a.tmps[12]? = some (.bool false) := s9
   have ck0 : w9.cell? ⟨g5, 0, none⟩ = _ := TB.cell (T5.out.keep hb) 0 _ rfl
   have ck1 : w9.cell? ⟨g5, 1, none⟩ = _ := TB.cell (T5.out.keep hb) 1 _ rfl
   have ck2 : w9.cell? ⟨g5, 2, none⟩ = _ := TB.cell (T5.out.keep hb) 2 _ rfl
   have ck3 : w9.cell? ⟨g5, 3, none⟩ = _ := TB.cell (T5.out.keep hb) 3 _ rfl
   have ck4 : w9.cell? ⟨g5, 4, none⟩ = _ := TB.cell (T5.out.keep hb) 4 _ rfl
   have ck5 : w9.cell? ⟨g5, 5, none⟩ = _ := TB.cell (T5.out.keep hb) 5 _ rfl
   have ck6 : w9.cell? ⟨g5, 6, none⟩ = _ := TB.cell (T5.out.keep hb) 6 _ rfl
   have ck7 : w9.cell? ⟨g5, 7, none⟩ = _ := TB.cell (T5.out.keep hb) 7 _ rfl
   have ck8 : w9.cell? ⟨g5, 8, none⟩ = _ := TB.cell (T5.out.keep hb) 8 _ rfl
   have ck9 : w9.cell? ⟨g5, 9, none⟩ = _ := TB.cell (T5.out.keep hb) 9 _ rfl
   have ck10 : w9.cell? ⟨g5, 10, none⟩ = _ := TB.cell (T5.out.keep hb) 10 _ rfl
   refine wpOp_step rfl fun K' hK' => ?_
   rw [if_pos (wanted_on rfl rfl rfl s9 rfl)]
   unfold Oper.wp
   simp only [execOp]
   go_simp
   exact hK' _ _ ⟨_, rfl, Below.refl _ _, rfl⟩
  | 5, _ =>
   obtain ⟨s0, r0, _⟩ := hw 4 (by omega) (by kernel_rfl)
   have e0 : v 4 = .agg #[.int .i64 t.kd, .string t.nm.1, .string t.nm.2, u0, u1, u2, u3, u4, u5, u6, .slice A7 t.args.length c7] := r0
   rw [e0] at s0
   replace s0 : a.tmps[13]? = some (.agg #[.int .i64 t.kd, .string t.nm.1, .string t.nm.2, u0, u1, u2, u3, u4, u5, u6, .slice A7 t.args.length c7]) := s0
   obtain ⟨s9, r9, _⟩ := hw 3 (by omega) (by kernel_rfl)
   have e9 : v 3 = .bool false := r9
   rw [e9] at s9
   replace s9 : a.tmps[12]? = some (.bool false) := s9
   refine gw_t rfl (wanted_on rfl rfl rfl s9 rfl) 51 13 _ _ rfl (fun v w => by go_simp) s0 ?_
   with_reducible refine (CQ.out w9 hb).mono ?_
   rintro e w3 ⟨p3, rfl, h3, hb3⟩
   exact ⟨_, rfl, _, rfl, hb3, Nat.le_trans hb.size hb3.size, p3, rfl, h3.more (fun b hb0 => up3 (Below.refl _ V) hb b hb0)⟩
  | 6, _ =>
   obtain ⟨s9, r9, _⟩ := hw 3 (by omega) (by kernel_rfl)
   have e9 : v 3 = .bool false := r9
   rw [e9] at s9
   replace s9 : a.tmps[12]? = some (.bool false) := s9
   obtain ⟨b0, b1, b2, b3, b4, b5, b6⟩ := (B1.out.keep hb).c
   refine wpOp_step rfl fun K' hK' => ?_
   rw [if_pos (wanted_on rfl rfl rfl s9 rfl)]
   unfold Oper.wp
   simp only [execOp]
   go_simp
   exact hK' _ _ ⟨_, rfl, Below.refl _ _, rfl⟩
  | 7, _ =>
   obtain ⟨s0, r0, b0⟩ := hw 5 (by omega) (by kernel_rfl)
   obtain ⟨hz0, p0, e0, h0⟩ := r0
   rw [e0] at s0
   obtain ⟨s1, r1, _⟩ := hw 6 (by omega) (by kernel_rfl)
   have e1 : v 6 = .agg #[x0, x1, x2, x3, x4, x5, p] := r1
   rw [e1] at s1
   replace s1 : a.tmps[15]? = some (.agg #[x0, x1, x2, x3, x4, x5, p]) := s1
   obtain ⟨s9, r9, _⟩ := hw 3 (by omega) (by kernel_rfl)
   have e9 : v 3 = .bool false := r9
   rw [e9] at s9
   replace s9 : a.tmps[12]? = some (.bool false) := s9
   replace s0 : a.tmps[14]? = some (vO OO p0) := s0
   rw [← HEO.out] at s1
   refine gw_tt rfl (wanted_on rfl rfl rfl s9 rfl) 91 14 15 _ _ _ rfl (fun v u w => by go_simp) s0 s1 ?_
   with_reducible refine (EQC.out w9 p0 hb h0).mono ?_
   rintro e w3 ⟨rfl, hb3⟩
   exact ⟨_, rfl, _, rfl, hb3, rfl⟩
  | 8, _ =>
   obtain ⟨s0, r0, _⟩ := hw 7 (by omega) (by kernel_rfl)
   have e0 : v 7 = .bool true := r0
   rw [e0] at s0
   replace s0 : a.tmps[16]? = some (.bool true) := s0
   obtain ⟨s9, r9, _⟩ := hw 3 (by omega) (by kernel_rfl)
   have e9 : v 3 = .bool false := r9
   rw [e9] at s9
   replace s9 : a.tmps[12]? = some (.bool false) := s9
   refine wpOp_step rfl fun K' hK' => ?_
   rw [if_pos (wanted_on rfl rfl rfl s9 rfl)]
   unfold Oper.wp
   simp only [execOp]
   go_simp
   exact hK' _ _ ⟨_, rfl, Below.refl _ _, rfl⟩
 case done =>
  intro a w9 v lo hi' hdef hsz hoth hb hj hap
  obtain ⟨_, hv3, _, _⟩ := hj 3 (by omega)
  obtain ⟨_, hv8, _, _⟩ := hj 8 (by omega)
  have ha := eq_puts hdef hsz hoth (fun i hi => (hj i hi).1)
  subst ha
  clear hj hoth hdef hsz hap
  change v 3 = _ at hv3
  change v 8 = _ at hv8
  simp only [puts, List.getD_cons_zero, List.getD_cons_succ, hv3, hv8]
  generalize v 0 = v0
  generalize v 1 = v1
  generalize v 2 = v2
  generalize v 4 = v4
  generalize v 5 = v5
  generalize v 6 = v6
  generalize v 7 = v7
  clear hv3 hv8
  simp only [Act.put, List.setIfInBounds_toArray, List.set_cons_zero, List.set_cons_succ]
  show wpList _ _ _ [_] _ _
  have T9 := hI (T5.out.keep hb)
  have B9 := hI (B2.out.keep hb)
  have HV := HVS.out
  have HB9 : Hid (Below w.heap.size w w9) := HBV.out.trans (hb.mono HBV.out.size)
  have H9 : Hid (TmAt w9 (Upto w w9 S) t [.int .i64 t.kd, .string t.nm.1, .string t.nm.2, u0, u1, u2, u3, u4, u5, u6, .slice A7 t.args.length c7]) := TmAt.keep (fun b h => by
   have h' := HUP.out b h
   rcases h with h | h
   · exact .inl h
   · exact .inr ⟨h.1, by have := hb.size; omega⟩) (fun b h => hb.block b (by have := HUP.out b h; omega)) _ _ HT4.out
  clear hb CV CQ EQC T5 B2 HT4 HUP
  go_wp2_with (first | ((with_reducible refine loadTb (cs := [.int .i64 t.kd, .string t.nm.1, .string t.nm.2, u0, u1, u2, u3, u4, u5, u6, .slice A7 t.args.length c7]) (.tmp 5) ?_ ?_ ?_ T9.out ?_ ?_); rfl; rfl; rfl; rfl) | ((with_reducible refine storeTb (cs := [.int .i64 t.kd, .string t.nm.1, .string t.nm.2, u0, u1, u2, u3, u4, u5, u6, .slice A7 t.args.length c7]) (.tmp 2) (.tmp 20) ?_ ?_ ?_ ?_ B9.out ?_ ?_ ?_ ?_); rfl; rfl; rfl; rfl; rfl; exact O4.out.1; exact O4.out.2))
  exact retTbx rfl rfl rfl (B9.out.set _) O4.out.1 (RetTB.mk (below_setRowO HB9.out (by omega) _) (TmAt.boxed H9.out B9.out.nb _))
set_option linter.unusedSimpArgs false
theorem uN_quo (s : ByteArray) : ¬ ((uN s).1.toList = [108, 105, 115, 112] ∧ (uN s).2.toList = [113, 117, 111, 116, 101]) := fun h => by
 have h1 := h.1
 rw [Lib.toList_data] at h1
 exact absurd (show ([117, 115, 101, 114] : List UInt8) = [108, 105, 115, 112] from h1) (by decide)
theorem vAt_q (n : Int) : vOkT (vAt n).1 (vAt n).2 = true ∧ SyOk (LA (vAt n).1) (LA (vAt n).2) := by
 unfold vAt
 have h : ∀ k, vOkT (vN4.getD k (uN ⟨#[120]⟩)).1 (vN4.getD k (uN ⟨#[120]⟩)).2 = true ∧ SyOk (LA (vN4.getD k (uN ⟨#[120]⟩)).1) (LA (vN4.getD k (uN ⟨#[120]⟩)).2) := fun k => by
  match k with
  | 0 => exact ⟨by kernel_rfl, .inr rfl, by decide, by decide⟩
  | 1 => exact ⟨by kernel_rfl, .inr rfl, by decide, by decide⟩
  | 2 => exact ⟨by kernel_rfl, .inr rfl, by decide, by decide⟩
  | 3 => exact ⟨by kernel_rfl, .inr rfl, by decide, by decide⟩
  | k + 4 => exact ⟨(show vOkT (uN ⟨#[120]⟩).1 (uN ⟨#[120]⟩).2 = true by kernel_rfl), .inr rfl, (show 1 ≤ (LA (⟨#[120]⟩ : ByteArray)).length by decide), (show (LA (⟨#[120]⟩ : ByteArray)).length ≤ 40 by decide)⟩
 exact h _
theorem fAt_q (n : Int) : Sy.symOk (fAt n).1 (fAt n).2 = true ∧ SyOk (LA (fAt n).1) (LA (fAt n).2) := by
 unfold fAt
 have h : ∀ k, Sy.symOk (uN (fNs.getD k ⟨#[102]⟩)).1 (uN (fNs.getD k ⟨#[102]⟩)).2 = true ∧ SyOk (LA (uN (fNs.getD k ⟨#[102]⟩)).1) (LA (uN (fNs.getD k ⟨#[102]⟩)).2) := fun k => by
  match k with
  | 0 => exact ⟨by kernel_rfl, .inr rfl, by decide, by decide⟩
  | 1 => exact ⟨by kernel_rfl, .inr rfl, by decide, by decide⟩
  | 2 => exact ⟨by kernel_rfl, .inr rfl, by decide, by decide⟩
  | k + 3 => exact ⟨(show Sy.symOk (uN ⟨#[102]⟩).1 (uN ⟨#[102]⟩).2 = true by kernel_rfl), .inr rfl, (show 1 ≤ (LA (⟨#[102]⟩ : ByteArray)).length by decide), (show (LA (⟨#[102]⟩ : ByteArray)).length ≤ 40 by decide)⟩
 exact h _
mutual
theorem Tm.bd_up {j k : Nat} (hk : j ≤ k) : ∀ t : Tm, t.bd j → t.bd k
 | .var _, _ => by unfold Tm.bd; trivial
 | .con o, h => by unfold Tm.bd at h ⊢; exact Ob.bd_more hk h
 | .app _ l, h => by unfold Tm.bd at h ⊢; exact Tm.bdL_up hk l h
theorem Tm.bdL_up {j k : Nat} (hk : j ≤ k) : ∀ l : List Tm, Tm.bdL j l → Tm.bdL k l
 | [], _ => by unfold Tm.bdL; trivial
 | t :: l, h => by unfold Tm.bdL at h ⊢; exact ⟨Tm.bd_up hk t h.1, Tm.bdL_up hk l h.2⟩
end
def QF (t : Tm) (n : Nat) : Prop := t.qok ∧ wfT t = true ∧ (quO t).bd 10 ∧ (quO t).nodes ≤ n
mutual
theorem mtP_q {PO : Rw → Ob → Prop} : ∀ (r : Rw) (t : Tm), mtP PO r t → QF t (8 * r.cnt)
 | .mk k n s l, t, h => by
  have hbd := mtP_bd _ _ h
  unfold mtP at h
  unfold Rw.cnt
  split at h
  · subst h
    refine ⟨by unfold Tm.qok; trivial, (vAt_q n).1, (vAt_q n).2, ?_⟩
    show 1 ≤ _
    omega
  · split at h
    · obtain ⟨o, rfl, _, ho⟩ := h
      refine ⟨by unfold Tm.qok; trivial, rfl, ?_, ?_⟩
      · refine ⟨⟨.inl rfl, by decide, by decide⟩, hbd, nil_ok⟩
      · have h1 := ho.nodes
        show 1 + 1 + (1 + o.nodes + 1) ≤ _
        omega
    · obtain ⟨ts, rfl, hl, hs⟩ := h
      obtain ⟨h1, h2, h3, h4⟩ := mtsP_q l ts hs
      refine ⟨?_, ?_, ?_, ?_⟩
      · unfold Tm.qok
        exact ⟨uN_quo _, by omega, h1⟩
      · show (Sy.symOk (fAt n).1 (fAt n).2 && (decide (ts.length ≤ 8) && wfTs ts)) = true
        rw [(fAt_q n).1, h2, decide_eq_true (show ts.length ≤ 8 by omega)]
        rfl
      · exact ⟨(fAt_q n).2, h3⟩
      · show 1 + 1 + (Ob.list (quOs ts)).nodes ≤ _
        omega
theorem mtsP_q {PO : Rw → Ob → Prop} : ∀ (l : List Rw) (ts : List Tm), mtsP PO l ts → Tm.qoks ts ∧ wfTs ts = true ∧ (Ob.list (quOs ts)).bd 10 ∧ (Ob.list (quOs ts)).nodes ≤ 1 + ts.length + 8 * Rw.cnts l
 | _, [], _ => ⟨by unfold Tm.qoks; trivial, rfl, nil_ok, by show 1 ≤ _; omega⟩
 | [], _ :: _, h => by unfold mtsP at h; exact h.elim
 | r :: rs, t :: ts, h => by
  unfold mtsP at h
  unfold Rw.cnts
  obtain ⟨a1, a2, a3, a4⟩ := mtP_q r t h.1
  obtain ⟨b1, b2, b3, b4⟩ := mtsP_q rs ts h.2
  refine ⟨by unfold Tm.qoks; exact ⟨a1, b1⟩, ?_, ⟨a3, b3⟩, ?_⟩
  · show (wfT t && wfTs ts) = true
    rw [a2, b2]; rfl
  · show 1 + (quO t).nodes + (Ob.list (quOs ts)).nodes ≤ _
    simp only [List.length_cons]
    omega
end

def LmP (w : World) (S : Nat → Prop) (f : Lm) (b o : Nat) : Prop := (S b ∧ Plain w b) ∧ ∃ cs, LmC w S f cs ∧ ∀ j u, cs[j]? = some u → w.cell? ⟨b, o + j, none⟩ = some u



def Ad (w : World) (o : Ob) (b k : Nat) (p : Value) : Prop := At w (Has w) o b k p

theorem TmAt.has9 {w w' : World} {t : Tm} {cs : List Value} (h : TmAt w (Has w) t cs) (hb : Below w.heap.size w w') : TmAt w' (Has w') t cs := (h.below (In.has w) hb).more (fun b h => Nat.lt_of_lt_of_le h hb.size)
end Go.Proofs.YtinjhnnpbejccaaGreatDoor
