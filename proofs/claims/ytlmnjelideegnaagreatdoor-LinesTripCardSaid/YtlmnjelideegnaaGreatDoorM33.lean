import Derived.Test.YtlmnjelideegnaaGreatDoorDl
import Derived.Test.YtlmnjelideegnaaGreatDoorM32
import Derived.Lib.Repeat
import Derived.Test.YtlmnjelideegnaaGreatDoorM28
import Derived.BigQuiet
import Derived.Test.YtlmnjelideegnaaGreatDoorM30
import Derived.Test.YtlmnjelideegnaaGreatDoorM24
import Derived.Test.YtlmnjelideegnaaGreatDoorM29
import Derived.Test.YtlmnjelideegnaaGreatDoorM19
namespace Go.Proofs.YtlmnjelideegnaaGreatDoor
open Go Go.RowKit
set_option linter.unusedVariables false
set_option maxHeartbeats 32000000
set_option maxRecDepth 100000
mutual
def szT : Tr → Nat | .mk _ l => 1 + szTs l
def szTs : List Tr → Nat
 | [] => 0
 | x :: r => szT x + szTs r
end
theorem szT_pos (t : Tr) : 1 ≤ szT t := by
 cases t
 unfold szT
 omega
theorem szTs_len : ∀ l : List Tr, l.length ≤ szTs l
 | [] => Nat.zero_le _
 | x :: r => by
  have := szTs_len r
  have := szT_pos x
  unfold szTs
  simp only [List.length_cons]
  omega
theorem szTs_app : ∀ a b : List Tr, szTs (a ++ b) = szTs a + szTs b
 | [], b => by simp [szTs]
 | x :: r, b => by
  have := szTs_app r b
  rw [List.cons_append]
  rw [show szTs (x :: (r ++ b)) = szT x + szTs (r ++ b) by rw [szTs], show szTs (x :: r) = szT x + szTs r by rw [szTs]]
  omega
theorem szTs_take (l : List Tr) (i : Nat) : szTs (l.take i) + szTs (l.drop i) = szTs l := by
 rw [← szTs_app, List.take_append_drop]
theorem szTs_get {l : List Tr} {i : Nat} {x : Tr} (h : l[i]? = some x) : szTs (l.take i) + szT x ≤ szTs l := by
 have h1 := szTs_take l i
 obtain ⟨hi, rfl⟩ := List.getElem?_eq_some_iff.1 h
 rw [List.drop_eq_getElem_cons hi] at h1
 have e : szTs (l[i] :: l.drop (i + 1)) = szT l[i] + szTs (l.drop (i + 1)) := by rw [szTs]
 omega
theorem clo_len : ∀ l : List (List UInt8), (clo l).length = l.length
 | [] => rfl
 | [x] => rfl
 | x :: y :: r => by
  have := clo_len (y :: r)
  simp only [clo, List.length_cons] at this ⊢
  omega
theorem opn_len (l : List (List UInt8)) : (opn l).length = l.length := by
 cases l <;> simp [opn]
theorem pre_len (bf : List UInt8) (l : List (List UInt8)) : (pre bf l).length = l.length := by
 cases l <;> simp [pre]
mutual
theorem linT_len : ∀ (W : Int) (t : Tr), (linT W t).length ≤ szT t
 | W, .mk t l => by
  unfold linT szT
  split
  · simp
  · rw [clo_len, opn_len]
    have := linTs_len (W - 1) l
    omega
theorem linTs_len : ∀ (W : Int) (l : List Tr), (linTs W l).length ≤ szTs l
 | W, [] => by simp [linTs]
 | W, x :: r => by
  unfold linTs szTs
  have := linT_len W x
  have := linTs_len W r
  rw [List.length_append]
  omega
end
theorem Sg.els {full : List UInt8} {s e : Nat} {m : List Spn} {t : List UInt8} {l : List Tr} (h : Sg full (.mk s e m) (.mk t l)) : ∀ y ∈ l, ∃ sp, Sg full sp y := by
 cases h with
 | mk _ _ _ _ _ _ _ _ hl hs =>
  intro y hy
  obtain ⟨i, hi, rfl⟩ := List.getElem_of_mem hy
  exact ⟨_, hs i _ _ (List.getElem?_eq_getElem (by omega)) (List.getElem?_eq_getElem hi)⟩
theorem Sg.tle {full : List UInt8} {sp : Spn} {t : List UInt8} {l : List Tr} (h : Sg full sp (.mk t l)) : t.length ≤ full.length := by
 cases h with
 | mk _ _ _ _ _ he hle _ _ _ => omega
theorem clo_bd {n : Nat} : ∀ l : List (List UInt8), (∀ x ∈ l, x.length ≤ n) → ∀ x ∈ clo l, x.length ≤ n + 1
 | [], h, x, hx => by simp [clo] at hx
 | [y], h, x, hx => by
  have := h y (by simp)
  simp only [clo, List.mem_singleton] at hx
  subst hx
  simp only [List.length_append, List.length_cons, List.length_nil]
  omega
 | y :: z :: r, h, x, hx => by
  simp only [clo, List.mem_cons] at hx
  rcases hx with rfl | hx
  · have := h x (by simp)
    omega
  · exact clo_bd (z :: r) (fun x hx => h x (List.mem_cons_of_mem _ hx)) x hx
theorem opn_bd {n : Nat} (l : List (List UInt8)) (h : ∀ x ∈ l, x.length ≤ n) : ∀ x ∈ opn l, x.length ≤ n + 1 := by
 cases l with
 | nil => intro x hx; simp [opn] at hx
 | cons y r =>
  intro x hx
  simp only [opn, List.mem_cons, List.mem_map] at hx
  rcases hx with rfl | ⟨z, hz, rfl⟩
  · have := h y (by simp)
    simpa using this
  · have := h z (List.mem_cons_of_mem _ hz)
    simpa using this
mutual
theorem linT_bd (full : List UInt8) : ∀ (W : Int) (t : Tr) (sp : Spn), Sg full sp t → ∀ x ∈ linT W t, x.length ≤ full.length + 2 * szT t
 | W, .mk t l, .mk s e m, h, x, hx => by
  unfold linT at hx
  have e0 : szT (.mk t l) = 1 + szTs l := by rw [szT]
  rw [e0]
  split at hx
  · rw [List.mem_singleton] at hx
    subst hx
    have := h.tle
    omega
  · have := clo_bd _ (opn_bd _ (linTs_bd full (W - 1) l h.els)) x hx
    omega
theorem linTs_bd (full : List UInt8) : ∀ (W : Int) (l : List Tr), (∀ y ∈ l, ∃ sp, Sg full sp y) → ∀ x ∈ linTs W l, x.length ≤ full.length + 2 * szTs l
 | W, [], h, x, hx => by simp [linTs] at hx
 | W, y :: r, h, x, hx => by
  rw [show linTs W (y :: r) = linT W y ++ linTs W r by rw [linTs], List.mem_append] at hx
  have e0 : szTs (y :: r) = szT y + szTs r := by rw [szTs]
  rw [e0]
  rcases hx with hx | hx
  · obtain ⟨sp, hsp⟩ := h y (by simp)
    have := linT_bd full W y sp hsp x hx
    omega
  · have := linTs_bd full W r (fun y hy => h y (List.mem_cons_of_mem _ hy)) x hx
    omega
end
theorem preAll_bd (full : List UInt8) (W : Int) (bf : List UInt8) (k : Nat) (l : List Tr) (hk : bf.length ≤ k) (h : ∀ y ∈ l, ∃ sp, Sg full sp y) : ∀ x ∈ preAll W bf k l, x.length ≤ k + full.length + 2 * szTs l := by
 cases l with
 | nil => intro x hx; simp [preAll] at hx
 | cons y r =>
  intro x hx
  have hh := linTs_bd full W (y :: r) h
  rw [show linTs W (y :: r) = linT W y ++ linTs W r by rw [linTs]] at hh
  simp only [preAll, List.mem_append, List.mem_map] at hx
  rcases hx with hx | ⟨z, hz, rfl⟩
  · cases hl : linT W y with
    | nil => rw [hl] at hx; simp [pre] at hx
    | cons a b =>
     rw [hl] at hx
     simp only [pre, List.mem_cons, List.mem_map] at hx
     rcases hx with rfl | ⟨z, hz, rfl⟩
     · have := hh a (by rw [hl]; simp)
       rw [List.length_append]
       omega
     · have := hh z (by rw [hl]; simp [hz])
       rw [List.length_append, List.length_replicate]
       omega
  · have := hh z (by simp [hz])
    rw [List.length_append, List.length_replicate]
    omega
theorem preAll_len (W : Int) (bf : List UInt8) (k : Nat) (l : List Tr) : (preAll W bf k l).length ≤ szTs l := by
 cases l with
 | nil => simp [preAll]
 | cons x r =>
  have := linT_len W x
  have := linTs_len W r
  show (pre bf (linT W x) ++ (linTs W r).map _).length ≤ _
  unfold szTs
  rw [List.length_append, pre_len, List.length_map]
  omega
theorem linTs_app (W : Int) : ∀ a b : List Tr, linTs W (a ++ b) = linTs W a ++ linTs W b
 | [], b => by simp [linTs]
 | x :: r, b => by
  have := linTs_app W r b
  rw [List.cons_append, show linTs W (x :: (r ++ b)) = linT W x ++ linTs W (r ++ b) by rw [linTs], show linTs W (x :: r) = linT W x ++ linTs W r by rw [linTs], this, List.append_assoc]
theorem preAll_snoc (W : Int) (bf : List UInt8) (k : Nat) (r : List Tr) (x : Tr) : preAll W bf k (r ++ [x]) = preAll W bf k r ++ pre (if r.length = 0 then bf else List.replicate k 32) (linT W x) := by
 cases r with
 | nil => simp [preAll, linTs]
 | cons y r =>
  rw [if_neg (by simp), pre_sp]
  show pre bf (linT W y) ++ (linTs W (r ++ [x])).map _ = (pre bf (linT W y) ++ (linTs W r).map _) ++ _
  rw [linTs_app, List.map_append, List.append_assoc]
  simp [linTs]
theorem preAll_take {W : Int} {bf : List UInt8} {k : Nat} {l : List Tr} {i : Nat} {x : Tr} (h : l[i]? = some x) : preAll W bf k (l.take (i + 1)) = preAll W bf k (l.take i) ++ pre (if i = 0 then bf else List.replicate k 32) (linT W x) := by
 obtain ⟨hi, rfl⟩ := List.getElem?_eq_some_iff.1 h
 rw [List.take_succ_eq_append_getElem hi, preAll_snoc]
 have e : (l.take i).length = i := by rw [List.length_take]; omega
 rw [e]
theorem preAll_ne {W : Int} {bf : List UInt8} {k : Nat} {l : List Tr} (h : l ≠ []) : preAll W bf k l ≠ [] := by
 cases l with
 | nil => exact absurd rfl h
 | cons x r =>
  have := linT_ne W x
  show pre bf (linT W x) ++ _ ≠ []
  cases hl : linT W x with
  | nil => exact absurd hl this
  | cons a b => simp [pre]
theorem clo_last : ∀ l : List (List UInt8), l ≠ [] → ∃ A y, l = A ++ [y] ∧ clo l = A ++ [y ++ [41]]
 | [], h => absurd rfl h
 | [x], _ => ⟨[], x, rfl, rfl⟩
 | x :: y :: r, _ => by
  obtain ⟨A, z, e1, e2⟩ := clo_last (y :: r) (by simp)
  refine ⟨x :: A, z, by rw [e1]; rfl, ?_⟩
  show x :: clo (y :: r) = _
  rw [e2]
  rfl
theorem BrW.last {w : World} {B g : Nat} {full : List UInt8} {W : Int} {v : Value} {L : List (List UInt8)} {y : List UInt8} (h : BrW w B g full W v (L ++ [y])) : ∃ r c, v = .slice (some ⟨r, 0, none⟩) (L.length + 1) c ∧ c ≤ maxLen ∧ w.cell? ⟨r, L.length, none⟩ = some (.string (BA y)) ∧ r ≠ g ∧ r < w.heap.size ∧ w.frozen? ⟨r, L.length, none⟩ = false ∧
 ∀ (w1 : World), Below w.heap.size w w1 → ∀ y', BrW (w1.setCell ⟨r, L.length, none⟩ (.string (BA y'))) B g full W v (L ++ [y']) ∧ KpS B g w (w1.setCell ⟨r, L.length, none⟩ (.string (BA y'))) := by
 have hl : (L ++ [y]).length = L.length + 1 := by simp
 have ho := h.own
 rw [hl] at ho
 obtain ⟨b, c, rfl, h1, h2, h3, h4, h5⟩ := own_cells ho (by omega)
 have hi : (strC (L ++ [y]))[L.length]? = some (.string (BA y)) := by simp [strC]
 refine ⟨b, c, rfl, h2, h5 _ _ hi, by omega, h4, ?_, fun w1 hb y' => ?_⟩
 · obtain ⟨cur, hh⟩ := own_blk ho (g := b) rfl
   simp [World.frozen?, hh]
 · have H1 := h.keep hb
   have ho1 := H1.own
   rw [hl] at ho1
   refine ⟨⟨h.hB, ?_, ?_⟩, ⟨((hb.mono (by have := h.hB; omega)).setCell (p := ⟨b, L.length, none⟩) (show B ≤ b by have := h.hB; omega) _), fun k hk hg hn => ?_⟩⟩
   · exact (Below.heap_setCell w1 ⟨b, L.length, none⟩ _ g (show g ≠ b by omega)).trans H1.blk
   · obtain ⟨hlen, hz | ⟨g', cap, cur, e, hbg, hh, hnc, hm, hcs, hcur⟩⟩ := ho1
     · exact absurd hz.1 (by simp)
     · injection e with e1 e2 e3
       injection e1 with e1
       injection e1 with e1
       subst e1 e3
       have hl' : (L ++ [y']).length = L.length + 1 := by simp
       rw [hl']
       refine ⟨by simp [strC], .inr ⟨b, c, cur.set! L.length (.string (BA y')), rfl, hbg, ?_, hnc, hm, by simpa using hcs, ?_⟩⟩
       · simp [World.setCell, Array.getElem?_modify, hh]
       · have hlt : L.length < cur.size := by omega
         rw [Nat.mul_one] at hcur ⊢
         simp only [Array.set!_eq_setIfInBounds, Array.toList_setIfInBounds]
         rw [List.take_set, hcur]
         simp [strC]
   · exact (Below.heap_setCell w1 ⟨b, L.length, none⟩ _ k (fun e => by
      obtain ⟨cur, hh⟩ := own_blk ho (g := b) rfl
      subst e
      exact hn cur _ hh)).trans (hb.block k hk)
/-- What add does to a tree of at most k parts. -/
def AddC (k : Nat) : Prop := ∀ (tr : Tr) (s e : Nat) (m : List Spn) (w : World) (B g : Nat) (full : List UInt8) (W : Int) (v x : Value) (ls : List (List UInt8)) (bf : List UInt8) (S : Nat → Prop), szT tr ≤ k → Sg full (.mk s e m) tr → BrW w B g full W v ls → SpL w S m x → (∀ b, S b → b ≠ g) →
 full.length ≤ 100000000 → bf.length + szT tr ≤ 1000000 → ls.length + szT tr ≤ 1000000 →
 Calls Tryz.prog 55 #[.pointer (some ⟨g, 0, none⟩), .agg #[.int .i64 (s : Int), .int .i64 (e : Int), x], .string (BA bf)] w (fun r w' => r = .returned (.tuple #[]) ∧ (∃ v', BrW w' B g full W v' (ls ++ pre bf (linT (W - bf.length) tr))) ∧ KpS B g w w')
theorem AddC.go {k : Nat} (h : AddC k) {tr : Tr} {s e : Nat} {m : List Spn} {w : World} {B g : Nat} {full : List UInt8} {W : Int} {v x : Value} {ls : List (List UInt8)} {bf : List UInt8} {S : Nat → Prop} (h1 : szT tr ≤ k) (h2 : Sg full (.mk s e m) tr) (h3 : BrW w B g full W v ls) (h4 : SpL w S m x) (h5 : ∀ b, S b → b ≠ g)
 (h6 : full.length ≤ 100000000) (h7 : bf.length + szT tr ≤ 1000000) (h8 : ls.length + szT tr ≤ 1000000) :
 Calls Tryz.prog 55 #[.pointer (some ⟨g, 0, none⟩), .agg #[.int .i64 (s : Int), .int .i64 (e : Int), x], .string (BA bf)] w (fun r w' => r = .returned (.tuple #[]) ∧ (∃ v', BrW w' B g full W v' (ls ++ pre bf (linT (W - bf.length) tr))) ∧ KpS B g w w') :=
 h tr s e m w B g full W v x ls bf S h1 h2 h3 h4 h5 h6 h7 h8
theorem rep_sp (k : Nat) (w : World) (hk : k ≤ 1000001) : Calls Tryz.prog 89 #[.string ⟨#[32]⟩, .int .i64 (k : Int)] w fun e w' => e = .returned (.string (BA (List.replicate k 32))) ∧ Below w.heap.size w w' := by
 refine (Tryz.strings_Repeat ⟨#[32]⟩ k w (by omega) (show 1 * k ≤ _ by omega)).mono ?_
 rintro e w' ⟨rfl, hb⟩
 refine ⟨?_, hb⟩
 have : Lib.repeatL (List.replicate 1 (32 : UInt8)) k = List.replicate (k * 1) 32 := Lib.repeatL_replicate 32 1 k
 rw [Nat.mul_one] at this
 show Ending.returned (.string ⟨(Lib.repeatL (List.replicate 1 (32 : UInt8)) k).toArray⟩) = _
 rw [this]
 rfl
theorem SpL.at' {w : World} {S : Nat → Prop} {m : List Spn} {v : Value} (h : SpL w S m v) : ∀ b n c, v = .slice (some ⟨b, 0, none⟩) n c → S b ∧ b < w.heap.size ∧ ∀ (i s e : Nat) (m' : List Spn), m[i]? = some (.mk s e m') → ∃ x, w.cell? ⟨b, i * 3, none⟩ = some (.int .i64 (s : Int)) ∧ w.cell? ⟨b, i * 3 + 1, none⟩ = some (.int .i64 (e : Int)) ∧ w.cell? ⟨b, i * 3 + 2, none⟩ = some x ∧ SpL w S m' x := by
 cases h with
 | nil => intro b n c e; injection e with e; cases e
 | row l b' c' cur x h0 hc hb hh hcell hsub =>
  intro b n c e
  injection e with e1 e2 e3
  injection e1 with e1
  injection e1 with e1
  subst e1
  refine ⟨hb, blk_lt hh, fun i s e m' hi => ?_⟩
  obtain ⟨h1, h2, h3⟩ := hcell i s e m' hi
  refine ⟨x i, ?_, ?_, ?_, hsub i s e m' hi⟩ <;> (rw [cell_of_row _ _ _ _ _ _ hh]; assumption)
theorem addBroken (k : Nat) (IH : AddC k) (t : List UInt8) (l : List Tr) (s e : Nat) (m : List Spn) (w : World) (B g : Nat) (full : List UInt8) (W : Int) (v : Value) (ls : List (List UInt8)) (bf : List UInt8) (S : Nat → Prop)
 (hk : szTs l ≤ k) (hels : ∀ y ∈ l, ∃ sp, Sg full sp y) (he : e = s + t.length) (hle : e ≤ full.length) (hseg : (full.drop s).take t.length = t) (hml : m.length = l.length) (hsub : ∀ (i : Nat) (x : Spn) (y : Tr), m[i]? = some x → l[i]? = some y → Sg full x y)
 (hbr : BrW w B g full W v ls) (b c : Nat) (hrow : SpL w S m (.slice (some ⟨b, 0, none⟩) m.length c)) (hS : ∀ b, S b → b ≠ g) (hcase : ¬ ((t.length : Int) ≤ W - bf.length ∨ m.length < 2))
 (hfull : full.length ≤ 100000000) (hbf : bf.length + 1 + szTs l ≤ 1000000) (hls : ls.length + szTs l ≤ 1000000) :
 Calls Tryz.prog 55 #[.pointer (some ⟨g, 0, none⟩), .agg #[.int .i64 (s : Int), .int .i64 (e : Int), .slice (some ⟨b, 0, none⟩) m.length c], .string (BA bf)] w (fun r w' => r = .returned (.tuple #[]) ∧ (∃ v', BrW w' B g full W v' (ls ++ clo (preAll (W - bf.length - 1) (bf ++ [40]) (bf.length + 1) l))) ∧ KpS B g w w') := by
 have hx := ext_seg he hseg
 have zb : (BA bf).size = bf.length := BA_size bf
 have zt : (BA t).size = t.length := BA_size t
 have zf : (BA full).size = full.length := BA_size full
 have ht8 : t.length ≤ 100000000 := by omega
 have hll := szTs_len l
 have H := qh9 hbr
 have hg := hbr.lt
 obtain ⟨n, hn⟩ : ∃ n, m.length = n := ⟨_, rfl⟩
 have hn2 : 2 ≤ n := by omega
 have hnl : l.length = n := by omega
 have hnB : n ≤ 1000000 := by omega
 have hR := qh9 hrow
 rw [hn] at hR ⊢
 have HN := qh9 hn
 have HNL := qh9 hnl
 have S0 := qh9 (SpB.newU w (.int .i64 (s : Int)) (.int .i64 (e : Int)) (.slice (some ⟨b, 0, none⟩) n c))
 have HW := qh9 (below_al w (.cells #[.int .i64 (s : Int), .int .i64 (e : Int), .slice (some ⟨b, 0, none⟩) n c] 89))
 have k1 : (0 : Int) ≤ (s : Int) := by omega
 have k2 : (s : Int) ≤ (e : Int) := by omega
 have k3 : (e : Int) ≤ ((BA full).size : Int) := by rw [zf]; omega
 have HX := qh9 hx
 have hW : ¬ (bf.length : Int) + (t.length : Int) ≤ W := by omega
 have hn3 : ¬ (n : Int) < 2 := by omega
 have HSUB := qh9 hsub
 have HIH := qh9 IH
 have HBD := qh9 (preAll_bd full (W - bf.length - 1) (bf ++ [40]) (bf.length + 1) l (by simp) hels)
 have HS := qh9 hS
 clear hx hbr hseg he hcase hsub hels IH hS hn hnl hrow hml
 go_enter Tryz.func55, Tryz.ntmps55
 go_upto_region 1 with fail
 generalize w.alloc (.cells #[.int .i64 (s : Int), .int .i64 (e : Int), .slice (some ⟨b, 0, none⟩) n c] 89) = W1 at S0 HW ⊢
 have H1 := qh9 (H.out.keep HW.out)
 obtain ⟨b0, b1, b2⟩ := H1.out.c
 obtain ⟨s0, s1, s2⟩ := S0.out.c
 go_wp2_with fail
 go_quiet (fail)
 rw [HX.out]
 have hq := belDN W1 nq
 replace H1 := qh9 (H1.out.keep hq)
 replace S0 := qh9 (S0.out.keep hq)
 replace HW := qc9 HW hq
 clear b0 b1 b2 s0 s1 s2 hq k1 k2 k3 HX
 generalize W1.drewN nq = W2 at H1 S0 HW ⊢
 obtain ⟨b0, b1, b2⟩ := H1.out.c
 obtain ⟨s0, s1, s2⟩ := S0.out.c
 have hb40 : (BA bf).size + 1 ≤ maxLen := by rw [zb]; unfold maxLen; omega
 generalize BA t = st at *
 have RP : Hid (Calls Tryz.prog 89 #[.string ⟨#[32]⟩, .int .i64 ((bf.length : Int) + 1)] W2 fun e w' => e = .returned (.string (BA (List.replicate (bf.length + 1) 32))) ∧ Below W2.heap.size W2 w') := by
  have := rep_sp (bf.length + 1) W2 (by omega)
  rwa [show ((bf.length + 1 : Nat) : Int) = (bf.length : Int) + 1 by omega] at this
 have HC40 : Hid (BA bf ++ ⟨#[40]⟩ = BA (bf ++ [40])) := (BA_app3 bf [40]).symm
 go_wp2_with fail
 refine RP.out.mono ?_
 rintro e3 w3 ⟨rfl, hb3⟩
 replace H1 := qh9 (H1.out.keep hb3)
 replace S0 := qh9 (S0.out.keep hb3)
 replace HW := qc9 HW hb3
 clear b0 b1 b2 s0 s1 s2 hb3 RP
 obtain ⟨s0, s1, s2⟩ := S0.out.c
 go_upto_region 6 with fail
 rw [HC40.out]
 go_wp2_with fail
 have HK0 : Hid (KpS B g w w3) := KpS.of HW.out (by have := H.out.hB; omega)
 clear s0 s1 s2 S0 HC40 hb40 zb
 go_loopw [2, 56] (fun bv iv wr => ∃ (i : Nat) (vv : Value), i ≤ n ∧ iv = .int .i64 (i : Int) ∧ bv = .string (BA (if i = 0 then bf ++ [40] else List.replicate (bf.length + 1) 32)) ∧ Hid (BrW wr B g full W vv (ls ++ preAll (W - bf.length - 1) (bf ++ [40]) (bf.length + 1) (l.take i))) ∧ Hid (KpS B g w wr)) (fun _ iv _ => n - (intOf iv).toNat)
 case atStart => exact ⟨0, v, Nat.zero_le _, rfl, rfl, qh9 (by rw [List.take_zero]; show BrW w3 B g full W v (ls ++ []); rw [List.append_nil]; exact H1.out), HK0⟩
 case round =>
  clear HK0 H1 HW
  obtain ⟨i, vv, hi, rfl, rfl, HB, HK⟩ := hrel
  by_cases hik : i < n
  · have hik2 : (i : Int) < (n : Int) := by omega
    obtain ⟨y, hy⟩ : ∃ y, l[i]? = some y := ⟨_, List.getElem?_eq_getElem (by rw [HNL.out]; exact hik)⟩
    obtain ⟨⟨s', e', m'⟩, hm⟩ : ∃ z, m[i]? = some z := ⟨_, List.getElem?_eq_getElem (by rw [HN.out]; exact hik)⟩
    have HSG := qh9 (HSUB.out i _ y hm hy)
    have HRr := qh9 (hR.out.ks (fun _ h => h) HS.out HK.out)
    obtain ⟨_, hbl, hat⟩ := HRr.out.at' _ _ _ rfl
    obtain ⟨x, c0, c1, c2, hsx⟩ := hat i s' e' m' hm
    obtain ⟨A, n', c', rfl⟩ := hsx.shape
    have HX := qh9 hsx
    have HY := qh9 hy
    have HGT := qh9 (szTs_get hy)
    have S1 := qh9 (SpB.newU wr (.int .i64 (s' : Int)) (.int .i64 (e' : Int)) (.slice A n' c'))
    have HA := qh9 (below_al wr (.cells #[.int .i64 (s' : Int), .int .i64 (e' : Int), .slice A n' c'] 89))
    have HB4 := qh9 (HB.out.keep HA.out)
    have HX4 := qh9 (hsx.keep (fun _ h => h) fun k cur _ hh => HA.out.block k (blk_lt hh))
    have HK4 := qh9 (HK.out.trans (KpS.of (g := g) HA.out (by have := H.out.hB; have := HK.out.bel.size; omega)))
    have hq1 := preAll_len (W - bf.length - 1) (bf ++ [40]) (bf.length + 1) (l.take i)
    have hq2 : (ls ++ preAll (W - bf.length - 1) (bf ++ [40]) (bf.length + 1) (l.take i)).length + szT y ≤ 1000000 := by
     have := HGT.out
     rw [List.length_append]
     omega
    have hyk : szT y ≤ k := by have := HGT.out; omega
    have hyl : szT y ≤ szTs l := by have := HGT.out; omega
    have HP := qh9 (preAll_take (W := W - bf.length - 1) (bf := bf ++ [40]) (k := bf.length + 1) hy)
    clear hat hsx hy hm hq1
    generalize hbq : (if i = 0 then bf ++ [40] else List.replicate (bf.length + 1) 32) = bq at HP ⊢
    have hbl : bq.length = bf.length + 1 := by
     rw [← hbq]
     split <;> simp
    have hwe : W - (bf.length : Int) - 1 = W - (bq.length : Int) := by omega
    have HW2 := qh9 hwe
    have hb5 : bq.length + szT y ≤ 1000000 := by omega
    clear hbq hwe
    go_upto_region 9 with fail
    generalize wr.alloc (.cells #[.int .i64 (s' : Int), .int .i64 (e' : Int), .slice A n' c'] 89) = W4 at S1 HA HB4 HX4 HK4 ⊢
    obtain ⟨s0, s1, s2⟩ := S1.out.c
    go_wp2_with fail
    refine (HIH.out.go hyk HSG.out HB4.out HX4.out HS.out hfull hb5 hq2).mono ?_
    rintro e5 w5 ⟨rfl, ⟨v5, h5⟩, hk5⟩
    replace h5 := qh9 h5
    replace hk5 := qh9 (HK4.out.trans hk5)
    clear s0 s1 s2
    go_wp2_with fail
    go_roundw
    case rel => exact ⟨i + 1, v5, by omega, by go_num, by rw [if_neg (Nat.succ_ne_zero i)], qh9 (by rw [HP.out, ← List.append_assoc, HW2.out]; rw [HW2.out] at h5; exact h5.out), hk5⟩
    case measure => simp [intOf]; omega
  · have hik2 : ¬ (i : Int) < (n : Int) := by omega
    generalize (if i = 0 then bf ++ [40] else List.replicate (bf.length + 1) 32) = bq
    have e : l.take i = l := List.take_of_length_le (by rw [HNL.out]; omega)
    rw [e] at HB
    have hl0 : l ≠ [] := fun e0 => by
     have := HNL.out
     rw [e0] at this
     simp only [List.length_nil] at this
     omega
    obtain ⟨L, z, eL, eC⟩ := clo_last _ (preAll_ne (W := W - bf.length - 1) (bf := bf ++ [40]) (k := bf.length + 1) hl0)
    have EC := qh9 eC
    rw [eL, ← List.append_assoc] at HB
    obtain ⟨r, c', rfl, hc', hcell, hrg, hrl, hfr, hst⟩ := HB.out.last
    obtain ⟨M, hM⟩ : ∃ M, (ls ++ L).length = M := ⟨_, rfl⟩
    rw [hM] at hst hcell hfr HB
    obtain ⟨N, hN⟩ : ∃ N, M + 1 = N := ⟨_, rfl⟩
    rw [hN] at HB hst
    have hM1 : M < N := by omega
    have hN1 : (N : Int) - 1 = (M : Int) := by omega
    have hM2 : M ≤ 2000000 := by
     have := preAll_len (W - bf.length - 1) (bf ++ [40]) (bf.length + 1) l
     rw [eL] at this
     simp only [List.length_append, List.length_cons, List.length_nil] at this hM
     omega
    have HST := qh9 hst
    obtain ⟨b0, b1, b2⟩ := HB.out.c
    have hM3 : (M : Int) < (N : Int) := by omega
    have hM4 : (0 : Int) ≤ (M : Int) := by omega
    have hz1 : (BA z).size + 1 ≤ 9223372036854775807 := by
     have := HBD.out z (by rw [eL]; simp)
     rw [BA_size z]
     omega
    have HZ := qh9 (BA_app3 z [41])
    have hwM : IntKind.i64.wrap (M : Int) = (M : Int) := IntWalk.i64_in _ (by omega)

    clear hst e eC eL hM hN
    go_upto_region 12 with fail
    go_region_with (fail)
    all_goals
     go_end0
     have hz := HST.out wr.drew (Below.drew (Below.refl _ _)) (z ++ [41])
     rw [HZ.out] at hz
     exact ⟨rfl, ⟨_, by rw [EC.out, ← List.append_assoc]; exact hz.1⟩, HK.out.trans hz.2⟩
theorem addC : ∀ k, AddC k
 | 0 => by
  intro tr s e m w B g full W v x ls bf S h1
  have := szT_pos tr
  omega
 | k + 1 => by
  intro tr s e m w B g full W v x ls bf S h1 hsg hbr hsp hS hfull hbf hls
  obtain ⟨t, l⟩ := tr
  have e0 : szT (.mk t l) = 1 + szTs l := by rw [szT]
  have hels := hsg.els
  have hll := szTs_len l
  rw [e0] at h1 hbf hls
  cases hsg with
  | mk _ _ _ _ _ he hle hseg hml hsub =>
   by_cases hcase : (t.length : Int) ≤ W - bf.length ∨ l.length < 2
   · rw [lin_whole hcase]
     cases hsp with
     | nil => exact addWhole w B g full W v ls hbr s e none 0 0 bf t he hle hseg (by rw [← hml] at hcase; exact hcase) hfull (by omega) (by omega) (by omega)
     | row _ b c cur x h0 hc hb hh hcell hsub' => exact addWhole w B g full W v ls hbr s e _ m.length c bf t he hle hseg (by rw [hml]; exact hcase) hfull (by omega) (by omega) (by omega)
   · rw [lin_broken hcase]
     have hrow := hsp
     cases hsp with
     | nil =>
      simp only [List.length_nil] at hml
      exact absurd (.inr (by omega)) hcase
     | row _ b c cur x h0 hc hb hh hcell hsub' => exact addBroken k (addC k) t l s e m w B g full W v ls bf S (by omega) hels he hle hseg hml hsub hbr b c hrow hS (by rw [hml]; exact hcase) hfull (by omega) (by omega)
mutual
theorem szT_trO (nm : List UInt8 → List UInt8 → List UInt8) : ∀ o : Ob, szT (trO nm o) ≤ o.nodes
 | .cons a d => by
  have h1 := szT_trO nm a
  have h2 := szTs_trE nm d
  have e : (Ob.cons a d).nodes = 1 + a.nodes + d.nodes := rfl
  unfold trO szT
  split
  · simp [szTs]; omega
  · split
    · rw [show szTs (trO nm a :: trE nm d) = szT (trO nm a) + szTs (trE nm d) by rw [szTs]]
      omega
    · simp [szTs]; omega
 | .num q => by
  unfold trO szT
  simp [szTs, Ob.nodes]
 | .str q => by
  unfold trO szT
  simp [szTs, Ob.nodes]
 | .sym p m => by
  unfold trO szT
  simp [szTs, Ob.nodes]
theorem szTs_trE (nm : List UInt8 → List UInt8 → List UInt8) : ∀ o : Ob, szTs (trE nm o) ≤ o.nodes
 | .cons a d => by
  have h1 := szT_trO nm a
  have h2 := szTs_trE nm d
  have e : (Ob.cons a d).nodes = 1 + a.nodes + d.nodes := rfl
  rw [show trE nm (.cons a d) = trO nm a :: trE nm d by rw [trE], show szTs (trO nm a :: trE nm d) = szT (trO nm a) + szTs (trE nm d) by rw [szTs]]
  omega
 | .num q => by simp [trE, szTs]
 | .str q => by simp [trE, szTs]
 | .sym p m => by simp [trE, szTs]
end
/-- These strings, in a row that is the answer's own. -/
def LnsV (w w' : World) (v : Value) (ls : List (List UInt8)) : Prop := w'.ownsRow w.heap.size 9 1 v ls.length (strC ls)
theorem own_baseU {w : World} {B B' e size n : Nat} {v : Value} {xs : List Value} (h : w.ownsRow B' e size v n xs) (hB : B ≤ B') : w.ownsRow B e size v n xs := by
 refine ⟨h.1, ?_⟩
 rcases h.2 with h0 | ⟨g, cap, cur, e1, e2, e3⟩
 · exact .inl h0
 · exact .inr ⟨g, cap, cur, e1, Nat.le_trans hB e2, e3⟩
def RetLn (w : World) (ls : List (List UInt8)) (n : Int) (e : Ending) (w' : World) : Prop := ∃ v, e = .returned (.tuple #[v, .int .i64 n]) ∧ LnsV w w' v ls ∧ Below w.heap.size w w'
theorem KpG.freeze {B g : Nat} {w : World} {r : Nat} {cur : Array Value} {fr : Nat × Nat} (hB : B ≤ r) (hr : w.heap[r]? = some (.cells cur 5 fr)) (n : Nat) : KpG B g w (w.freeze ⟨r, 0, none⟩ n) := by
 refine ⟨Lib.below_freeze (Below.refl B w) (p := ⟨r, 0, none⟩) (show B ≤ r from hB) n, fun k _ _ hn => ?_⟩
 have hkr : k ≠ r := fun e => hn cur fr (by rw [e]; exact hr)
 unfold World.freeze
 split
 · rfl
 · simp only [Array.getElem?_modify]
   rw [if_neg (fun e => hkr e.symm)]
theorem stringK (w : World) (B g : Nat) (lv : Value) (cur : ByteArray) (bp bv : Value) (acc : List UInt8) (h : PrW w B g lv cur bp bv acc) (h0 : acc ≠ []) :
 Calls Tryz.prog 51 #[.pointer (some ⟨g, 2, none⟩)] w (fun e w' => e = .returned (.string (BA acc)) ∧ KpG B g w w') := by
 have c3 : w.drew.cell? ⟨g, 3, none⟩ = some bv := h.c3
 have hB := h.hB
 have hrow := h.own.row
 have hl0 : acc.length ≠ 0 := by simpa using h0
 rcases h.own.2 with ⟨_, hz⟩ | ⟨r, cap, cur', rfl, hbg, hh, hn, hcm, hcs, _⟩
 · exact absurd hz hl0
 · have hSD : (Builtin.unsafeSliceData_ #[82] 122 #[.slice (some ⟨r, 0, none⟩) acc.length cap]).run Tryz.prog w.drew = .ok (.pointer (some ⟨r, 0, none⟩)) w.drew :=
    Lib.run_unsafeSliceData_row _ _ _ _ _ _ (by omega)
   have hUS : (Builtin.unsafeString_ #[122, 3] 9 #[.pointer (some ⟨r, 0, none⟩), .int .i64 acc.length]).run Tryz.prog w.drew = .ok (.string (BA acc)) (w.drew.freeze ⟨r, 0, none⟩ acc.length) := by
    refine Lib.run_unsafeString_row w.drew 122 3 9 5 Tryz.underlying122 (by kernel_rfl) r cur'.size (by have hg' : w.drew.heap[r]? = some (.cells cur' 5 (0, 0)) := hh; simp [World.shape?, hg']) acc h0 (by omega) (by unfold maxLen at hcm; omega) ?_
    intro j x hx
    obtain ⟨hj, rfl⟩ := List.getElem?_eq_some_iff.1 hx
    exact cells_cb hrow j hj
   have hd : KpG B g w w.drew := ⟨Below.drew (Below.refl B w), fun _ _ _ _ => rfl⟩
   have HF := qh9 (hd.trans (KpG.freeze (g := g) (w := w.drew) (cur := cur') (fr := (0, 0)) (show B ≤ r by omega) hh acc.length))
   clear hB hrow hl0 hbg hh hn hcm hcs h h0 hd
   go_enter Tryz.func51, Tryz.ntmps51
   have mixed : Tryz.prog.follows Departure.mixedOrders = true := by kernel_rfl
   go_wp2
   go_region_o
   all_goals (go_wp2; go_ret; exact ⟨rfl, HF.out⟩)
/-- What Lines answers. -/
def lnV (l : List Sy.Pg) (cur : ByteArray) (o : Ob) (b : Bool) (W : Int) : List (List UInt8) × Int := if chkV l cur o b = 0 then (linT W (trO (nmU l cur) o), 0) else ([], chkV l cur o b)
theorem linesP (l : List Sy.Pg) (v : Value) (cur : ByteArray) (o : Ob) (p : Value) (b : Bool) (W : Int) (w : World) (hv : Sy.PgV w l v) (hl : l.length ≤ 1000000) (hi : ∀ q ∈ l, q.2.length ≤ 1000000) (hT : EscT w) (h : Hd w o p) (k : Nat) (hk : k ≤ 900) (hbd : o.bd k) (hn : o.nodes ≤ 3000)
 (hV : ∀ X, Below w.heap.size w X → Calls Tryz.prog 66 #[vO o p] X (RetB X b)) :
 Calls Tryz.prog 20 #[v, .string cur, vO o p, .int .i64 W] w (RetLn w (lnV l cur o b W).1 (lnV l cur o b W).2) := by
 have CC : Hid (∀ X, Below w.heap.size w X → Calls Tryz.prog 49 #[v, .string cur, vO o p] X (RetI X (chkV l cur o b))) := fun X hb => checkObjectP l v cur o p b X (hv.keep hb) hl hi (h.below hb) (fun Y hY => hV Y (hb.trans (hY.mono hb.size)))
 have hz := (prO_len (k := k) (c := 4 * k + 100) (nm := nmU l cur) (Nat.le_refl _) (nmU_len88 l cur) 3000 o hn hbd).1
 have hz2 : (prO (nmU l cur) o).length ≤ 100000000 := by
  have h1 : (4 * k + 100) * o.nodes ≤ 4000 * 3000 := Nat.mul_le_mul (by omega) hn
  omega
 have HZ := qh9 hz2
 have HNE := qh9 (prO_ne (nmU_ne l cur) hbd)
 have CO : Hid (∀ W0 g, Below w.heap.size w W0 → PrC W0 g l v cur o) := fun W0 g hb => objG W0 g l v cur (hv.keep hb) hl hi (hT.keep hb) k hk 3000 o hn hn hbd
 have HD := qh9 h
 have hsz : szT (trO (nmU l cur) o) ≤ 3000 := Nat.le_trans (szT_trO _ o) hn
 have HSG : Hid (Sg (prO (nmU l cur) o) (spU (nmU l cur) 0 o) (trO (nmU l cur) o)) := by
  have := sg_ob (nmU l cur) (prO (nmU l cur) o) o [] [] (by simp)
  exact this
 have hcc := chk_cases l cur o b
 unfold lnV
 generalize chkV l cur o b = c at CC hcc ⊢
 generalize trO (nmU l cur) o = tr at HSG hsz ⊢
 obtain ⟨V, hV2⟩ : ∃ V : List (List UInt8) × Int, (if c = 0 then (linT W tr, (0 : Int)) else ([], c)) = V := ⟨_, rfl⟩
 rw [hV2]
 have HV := qh9 hV2
 obtain ⟨Vs, Vn⟩ := V
 clear hV2
 obtain ⟨A, cc, rfl, hx⟩ := hv
 clear hz hz2 hV hT hbd h hx hl hi hn
 generalize l.length = ln at *
 obtain ⟨a0, a1, a2, a3, a4, a5, ea⟩ := cells7 o p
 have T := Bx1.new w #[a0, a1, a2, a3, a4, a5, p]
 rw [vO_cells ea]
 go_enter Tryz.func20, Tryz.ntmps20
 go_upto_region 1 with fail
 generalize w.alloc (.cells #[a0, a1, a2, a3, a4, a5, p] 39) = W1 at T ⊢
 have B0 : Hid (Bx W1 (w.heap.size) (cellsO o p).toArray) := by rw [ea]; exact T.b0
 have HW := qh9 T.bel
 clear T ea
 go_wp2_with (first | ((with_reducible refine loadB (.tmp 6) ?_ ?_ ?_ B0.out ?_); rfl; rfl; rfl))
 with_reducible refine (CC.out _ HW.out).mono ?_
 rintro e w1 ⟨rfl, hb⟩
 replace B0 := qh9 (B0.out.keep hb)
 replace HW := qc9 HW hb
 clear hb CC
 rcases hcc with rfl | rfl | rfl
 · have hx := Prod.mk.inj HV.out
   obtain ⟨hx1, hx2⟩ := hx
   subst hx1 hx2
   clear HV
   have hP1 : Hid (PrW (w1.alloc (.cells #[.slice A ln cc, .string cur, .pointer none, .slice none 0 0] 86)) w1.heap.size w1.heap.size (.slice A ln cc) cur (.pointer none) (.slice none 0 0) []) :=
    ⟨Nat.le_refl _, heap_alloc_new _ _, .inl rfl, ⟨rfl, .inl ⟨rfl, rfl⟩⟩⟩
   have hal := below_al w1 (.cells #[.slice A ln cc, .string cur, .pointer none, .slice none 0 0] 86)
   replace B0 := qh9 (B0.out.keep hal)
   have CT := qh9 (CO.out w1 w1.heap.size HW.out)
   have HD1 := qh9 (HD.out.below HW.out)
   have HAL := qh9 hal
   have hgs : w1.heap.size < (w1.alloc (.cells #[.slice A ln cc, .string cur, .pointer none, .slice none 0 0] 86)).heap.size := by
    simp only [World.size_alloc]
    omega
   clear hal CO HD
   go_upto_region 5 with fail
   generalize w1.alloc (.cells #[.slice A ln cc, .string cur, .pointer none, .slice none 0 0] 86) = W2 at hP1 B0 HAL hgs ⊢
   go_wp2_with (first | ((with_reducible refine loadB (.tmp 6) ?_ ?_ ?_ B0.out ?_); rfl; rfl; rfl))
   with_reducible refine (CT.out.go W2 _ _ p [] HAL.out hP1.out HD1.out (by have := HZ.out; simpa using this)).mono ?_
   rintro e w2 ⟨⟨v2, rfl, hsp⟩, ⟨bp2, bv2, hp2⟩, hk2⟩
   have HP2 : Hid (PrW w2 w1.heap.size w1.heap.size (.slice A ln cc) cur bp2 bv2 (prO (nmU l cur) o)) := by
    rw [List.nil_append] at hp2
    exact hp2
   replace HAL := qh9 (HAL.out.trans hk2.bel)
   obtain ⟨⟨s, e, m⟩, hsu⟩ : ∃ sp, spU (nmU l cur) 0 o = sp := ⟨_, rfl⟩
   have hsp' : SpV w2 (fun b => W2.heap.size ≤ b ∧ b < w2.heap.size) (.mk s e m) v2 := hsu ▸ hsp
   obtain ⟨x, ex, hsx⟩ := hsp'
   replace ex : v2 = .agg #[.int .i64 (s : Int), .int .i64 (e : Int), x] := ex
   subst ex
   replace HSG : Hid (Sg (prO (nmU l cur) o) (.mk s e m) tr) := hsu ▸ HSG
   obtain ⟨A2, n2, c2, rfl⟩ := SpL.shape hsx
   have HX := qh9 hsx
   clear hp2 hk2 B0 hP1 CT HD1 hsp hsu hsx
   have HSB := qh9 (SpB.newU w2 (.int .i64 (s : Int)) (.int .i64 (e : Int)) (.slice A2 n2 c2))
   have HA := qh9 (below_al w2 (.cells #[.int .i64 (s : Int), .int .i64 (e : Int), .slice A2 n2 c2] 89))
   have hg2 : w1.heap.size < w2.heap.size := HP2.out.lt
   go_upto_region 6 with fail
   generalize w2.alloc (.cells #[.int .i64 (s : Int), .int .i64 (e : Int), .slice A2 n2 c2] 89) = W3 at HSB HA ⊢
   replace HP2 := qh9 (HP2.out.keep HA.out)
   replace HAL := qh9 (HAL.out.trans (HA.out.mono (by omega)))
   go_wp2_with fail
   with_reducible refine (stringK W3 _ _ _ cur _ _ _ HP2.out HNE.out).mono ?_
   rintro e3 w3 ⟨rfl, hk3⟩
   have hb3 := hk3.bel
   have hal := below_al w3 (.cells #[.string (BA (prO (nmU l cur) o)), .int .i64 W, .slice none 0 0] 97)
   have hal2 : KpG w1.heap.size w1.heap.size w3 (w3.alloc (.cells #[.string (BA (prO (nmU l cur) o)), .int .i64 W, .slice none 0 0] 97)) := KpG.of hal (by have := hb3.size; have := HA.out.size; omega)
   have HF := qh9 (hk3.trans hal2)
   have HW4 := qh9 (chain2 HW.out (HAL.out.trans HF.out.bel) (Nat.le_refl _))
   have HSB4 := qh9 (HSB.out.kg HF.out (show w2.heap.size ≠ w1.heap.size by omega))
   have HX4 := qh9 ((HX.out.keep (S' := fun b => W2.heap.size ≤ b ∧ b < w2.heap.size) (fun _ h => h) fun k cur _ hh => HA.out.block k (blk_lt hh)).kg (S' := fun b => W2.heap.size ≤ b ∧ b < w2.heap.size) (fun _ h => h) (fun b h => by have := h.1; omega) HF.out)
   have HB4 : Hid (BrW (w3.alloc (.cells #[.string (BA (prO (nmU l cur) o)), .int .i64 W, .slice none 0 0] 97)) w3.heap.size w3.heap.size (prO (nmU l cur) o) W (.slice none 0 0) []) :=
    ⟨Nat.le_refl _, heap_alloc_new _ _, rfl, .inl ⟨rfl, rfl⟩⟩
   have hsz3 : w2.heap.size ≤ w3.heap.size := Nat.le_trans HA.out.size hb3.size
   clear hb3 hal hal2 hk3 HF HP2 HSB
   go_upto_region 7 with fail
   generalize w3.alloc (.cells #[.string (BA (prO (nmU l cur) o)), .int .i64 W, .slice none 0 0] 97) = W4 at HW4 HSB4 HX4 HB4 ⊢
   obtain ⟨s0, s1, s2⟩ := HSB4.out.c
   have CAD := qh9 ((addC 3000).go (bf := []) hsz HSG.out HB4.out HX4.out (fun b h => by have := h.2; omega) HZ.out (by simp; omega) (by simp; omega))
   rw [show BA [] = ⟨#[]⟩ from rfl] at CAD
   go_wp2_with fail
   refine (CAD.out).mono ?_
   rintro e5 w5 ⟨rfl, ⟨v5, h5⟩, hk5⟩
   obtain ⟨b0, b1, b2⟩ := h5.c
   have HB5 := qh9 h5
   have HK5 := qh9 hk5
   clear h5 hk5 s0 s1 s2
   go_wp2_with fail
   go_ret2
   have ho := HB5.out.own
   have e0 : ([] : List (List UInt8)) ++ pre [] (linT (W - ((([] : List UInt8)).length : Int)) tr) = linT W tr := by
    have : W - ((([] : List UInt8)).length : Int) = W := by simp
    rw [this]
    have h0 : pre [] (linT W tr) = linT W tr := by
     have := pre_sp 0 (linT W tr)
     simpa using this
    rw [h0]
    rfl
   rw [e0] at ho
   have hws := HW4.out.size
   exact ⟨_, rfl, own_baseU ho (by have := HW.out.size; omega), HW4.out.trans (HK5.out.bel.mono (by have := HW.out.size; omega))⟩
 · have hx := Prod.mk.inj HV.out
   obtain ⟨hx1, hx2⟩ := hx
   subst hx1 hx2
   clear HV
   go_wp2
   go_ret2
   exact ⟨_, rfl, ⟨rfl, .inl ⟨rfl, rfl⟩⟩, HW.out⟩
 · have hx := Prod.mk.inj HV.out
   obtain ⟨hx1, hx2⟩ := hx
   subst hx1 hx2
   clear HV
   go_wp2
   go_ret2
   exact ⟨_, rfl, ⟨rfl, .inl ⟨rfl, rfl⟩⟩, HW.out⟩
section
variable (nm : List UInt8 → List UInt8 → List UInt8)
theorem tr_eq (o : Ob) : trO nm o = .mk (prO nm o) (trO nm o).l := by
 have := trO_t nm o
 cases h : trO nm o with
 | mk t l =>
  rw [h] at this
  have e : t = prO nm o := this
  rw [e]
  rfl
theorem lin_one {W : Int} {o : Ob} (h : ((prO nm o).length : Int) ≤ W ∨ (trO nm o).l.length < 2) : linT W (trO nm o) = [prO nm o] := by
 rw [tr_eq nm o]
 unfold linT
 rw [if_pos h]
theorem lin_many {W : Int} {o : Ob} (h : ¬ (((prO nm o).length : Int) ≤ W ∨ (trO nm o).l.length < 2)) : linT W (trO nm o) = clo (opn (linTs (W - 1) (trO nm o).l)) := by
 rw [tr_eq nm o]
 unfold linT
 rw [if_neg h]
 rfl
end
/-- The call returned these strings. -/
def RetLs (w : World) (ls : List (List UInt8)) (e : Ending) (w' : World) : Prop := ∃ v, e = .returned v ∧ LnsV w w' v ls ∧ Below w.heap.size w w'
/-- The objects of L lie in the row at g. -/
def AllAt (w : World) (L : List Ob) (g : Nat) : Prop := ∀ (i : Nat) (x : Ob), L[i]? = some x → ∃ p, Hd w x p ∧ CAt w x g (i * 7) p
theorem own_shapeN {w : World} {B : Nat} {e : TypeId} {size n : Nat} {v : Value} {xs : List Value} (h : w.ownsRow B e size v n xs) : ∃ A c, v = .slice A n c := by
 rcases h.2 with ⟨rfl, h0⟩ | ⟨r, cap, cur, rfl, _⟩
 · exact ⟨none, 0, by rw [h0]⟩
 · exact ⟨_, _, rfl⟩
theorem tkO_len (kp : List UInt8 → List UInt8 → List UInt8) : ∀ (m : Nat) (o : Ob), o.nodes ≤ m → (tkO kp o).length ≤ 3 * o.nodes ∧ (tkT kp o).length ≤ 3 * o.nodes := by
 intro m
 induction m with
 | zero => intro o h; have := o.nodes_pos; omega
 | succ m ih =>
  intro o hm
  cases o with
  | num q => exact ⟨by simp [tkO, Ob.nodes], by simp [tkT, Ob.nodes]⟩
  | str s => exact ⟨by simp [tkO, Ob.nodes], by simp [tkT, Ob.nodes]⟩
  | sym x y =>
   refine ⟨by simp [tkO, Ob.nodes], ?_⟩
   unfold tkT
   split <;> simp [Ob.nodes]
  | cons a d =>
   have hn : (Ob.cons a d).nodes = 1 + a.nodes + d.nodes := rfl
   obtain ⟨a1, _⟩ := ih a (by omega)
   obtain ⟨_, d2⟩ := ih d (by omega)
   have e2 : tkT kp (.cons a d) = tkO kp a ++ tkT kp d := rfl
   refine ⟨?_, by rw [e2, List.length_append]; omega⟩
   have main : (tkO kp (.cons a d)).length ≤ 1 + (tkO kp a).length + (tkT kp d).length ∨ ∃ x e, d = .cons x e ∧ (tkO kp (.cons a d)).length = 1 + (tkO kp x).length := by
    cases d with
    | cons x e =>
     by_cases hq : a = quoteO ∧ e = .nil
     · have e1 : tkO kp (.cons a (.cons x e)) = (4, [], [], []) :: tkO kp x := by
        have : tkO kp (.cons a (.cons x e)) = if a = quoteO ∧ e = .nil then (4, [], [], []) :: tkO kp x else (1, [], [], []) :: (tkO kp a ++ tkT kp (.cons x e)) := by rw [tkO]
        rw [this, if_pos hq]
       exact .inr ⟨x, e, rfl, by rw [e1, List.length_cons]; omega⟩
     · have e1 : tkO kp (.cons a (.cons x e)) = (1, [], [], []) :: (tkO kp a ++ tkT kp (.cons x e)) := by
        have : tkO kp (.cons a (.cons x e)) = if a = quoteO ∧ e = .nil then (4, [], [], []) :: tkO kp x else (1, [], [], []) :: (tkO kp a ++ tkT kp (.cons x e)) := by rw [tkO]
        rw [this, if_neg hq]
       exact .inl (by rw [e1, List.length_cons, List.length_append]; omega)
    | num q => exact .inl (by rw [tkO, List.length_cons, List.length_append]; omega)
    | str s => exact .inl (by rw [tkO, List.length_cons, List.length_append]; omega)
    | sym x y => exact .inl (by rw [tkO, List.length_cons, List.length_append]; omega)
   rcases main with h | ⟨x, e, rfl, h⟩
   · omega
   · have hd : (Ob.cons x e).nodes = 1 + x.nodes + e.nodes := rfl
     obtain ⟨x1, _⟩ := ih x (by omega)
     omega
theorem homeM_of {l : List Sy.Pg} : ∀ {o : Ob}, homeO l o = true → o.bd 90 → PrOkU l o
 | .num q, _, h => numOk_bd h
 | .str s, _, h => by
  have hs : s.length ≤ 2 * 90 + 20 := h
  exact hs
 | .sym x y, hh, h => ⟨symOk_of h, hh⟩
 | .cons a d, hh, h => by
  unfold homeO at hh
  rw [Bool.and_eq_true] at hh
  exact ⟨homeM_of hh.1 h.1, homeM_of hh.2 h.2⟩
/-- How long the text of a made object can be. -/
theorem prO_tx {nm : List UInt8 → List UInt8 → List UInt8} (hnm : ∀ p n, SyOk p n → n.length ≤ 8 → (nm p n).length ≤ 26) : ∀ (m : Nat) (o : Ob), o.nodes ≤ m → o.bd 10 → o.tx → (prO nm o).length ≤ 30 * o.nodes ∧ (prT nm o).length ≤ 30 * o.nodes + 4 := by
 intro m
 induction m with
 | zero => intro o h; have := o.nodes_pos; omega
 | succ m ih =>
  intro o hm hb hx
  have atom : ∀ o : Ob, o.isCons = false → o.nodes = 1 → (prO nm o).length ≤ 30 → (prO nm o).length ≤ 30 * o.nodes ∧ (prT nm o).length ≤ 30 * o.nodes + 4 := fun o hf h1 h => by
   rw [prT_atom nm hf, h1]
   refine ⟨by omega, ?_⟩
   split
   · simp
   · simp only [List.length_cons, List.length_append, List.length_nil]; omega
  cases o with
  | num q => exact atom (.num q) rfl rfl (by have := numS_len (show Bd 10 q from hb); show (numS q).length ≤ 30; omega)
  | str s => exact atom (.str s) rfl rfl (by have := escL_len 34 s; have h2 : s.length ≤ 12 := hx; show (escL 34 s).length ≤ 30; omega)
  | sym x y => exact atom (.sym x y) rfl rfl (by have := hnm x y hb hx; show (nm x y).length ≤ 30; omega)
  | cons a d =>
   have hn : (Ob.cons a d).nodes = 1 + a.nodes + d.nodes := rfl
   obtain ⟨a1, _⟩ := ih a (by omega) hb.1 hx.1
   obtain ⟨_, d2⟩ := ih d (by omega) hb.2 hx.2
   refine ⟨?_, ?_⟩
   · rw [prO_cons, hn]
     split
     · rename_i hq
       cases d with
       | num q => cases hq
       | str s => cases hq
       | sym x y => cases hq
       | cons x e' =>
        have hd : (Ob.cons x e').nodes = 1 + x.nodes + e'.nodes := rfl
        obtain ⟨x1, _⟩ := ih x (by omega) hb.2.1 hx.2.1
        show (prO nm x).length + 1 ≤ _
        omega
     · simp only [List.length_cons, List.length_append]
       omega
   · have e2 : prT nm (.cons a d) = 32 :: (prO nm a ++ prT nm d) := rfl
     rw [e2, hn]
     simp only [List.length_cons, List.length_append]
     omega
theorem nmU_len26 (l : List Sy.Pg) (cur : ByteArray) (p n : List UInt8) (h : SyOk p n) (h8 : n.length ≤ 8) : (nmU l cur p n).length ≤ 26 := by
 have := nmU_len l cur p n
 have : p.length ≤ 4 := by rcases h.1 with rfl | rfl <;> decide
 omega
theorem chk_home {l : List Sy.Pg} {cur : ByteArray} {o : Ob} {b : Bool} (h : chkV l cur o b = 0) : homeO l o = true := by
 unfold chkV at h
 split at h
 · split at h
   · rename_i h2
     rw [Bool.and_eq_true] at h2
     exact h2.2
   · cases h
 · cases h
/-- The lines one behind the other, each ended by a newline: the first behind i spaces, the others behind k; c stands behind the last. -/
def rn (k : Nat) (c : List UInt8) : Nat → List (List UInt8) → List UInt8
 | _, [] => []
 | i, [x] => List.replicate i 32 ++ (x ++ (c ++ [10]))
 | i, x :: y :: r => List.replicate i 32 ++ (x ++ 10 :: rn k c k (y :: r))
theorem rn_flat : ∀ ls : List (List UInt8), rn 0 [] 0 ls = ls.flatMap (· ++ [10])
 | [] => rfl
 | [x] => by simp [rn]
 | x :: y :: r => by
  have := rn_flat (y :: r)
  unfold rn
  rw [this]
  simp
theorem rn_clo (k : Nat) (c : List UInt8) : ∀ (ls : List (List UInt8)) (i : Nat), rn k c i (clo ls) = rn k (41 :: c) i ls
 | [], i => rfl
 | [x], i => by simp [clo, rn]
 | x :: y :: r, i => by
  have h := rn_clo k c (y :: r) k
  have hne : clo (y :: r) ≠ [] := clo_ne (by simp)
  have e : clo (x :: y :: r) = x :: clo (y :: r) := rfl
  rw [e]
  cases hc : clo (y :: r) with
  | nil => exact absurd hc hne
  | cons a b =>
   rw [hc] at h
   show List.replicate i 32 ++ (x ++ 10 :: rn k c k (a :: b)) = List.replicate i 32 ++ (x ++ 10 :: rn k (41 :: c) k (y :: r))
   rw [h]
theorem rn_map (k : Nat) (c : List UInt8) : ∀ (ls : List (List UInt8)), rn k c k (ls.map (32 :: ·)) = rn (k + 1) c (k + 1) ls
 | [] => rfl
 | [x] => by simp [rn, List.replicate_succ']
 | x :: y :: r => by
  have h := rn_map k c (y :: r)
  show List.replicate k 32 ++ ((32 :: x) ++ 10 :: rn k c k ((y :: r).map (32 :: ·))) = List.replicate (k + 1) 32 ++ (x ++ 10 :: rn (k + 1) c (k + 1) (y :: r))
  rw [h, List.replicate_succ']
  simp
theorem rn_opn (k : Nat) (c : List UInt8) (i : Nat) {ls : List (List UInt8)} (h : ls ≠ []) : rn k c i (opn ls) = List.replicate i 32 ++ 40 :: rn (k + 1) c 0 ls := by
 match ls, h with
 | [x], _ => simp [opn, rn]
 | x :: y :: r, _ =>
  have h := rn_map k c (y :: r)
  show List.replicate i 32 ++ ((40 :: x) ++ 10 :: rn k c k ((y :: r).map (32 :: ·))) = List.replicate i 32 ++ 40 :: (List.replicate 0 32 ++ (x ++ 10 :: rn (k + 1) c (k + 1) (y :: r)))
  rw [h]
  simp
theorem rn_app (k : Nat) (c : List UInt8) : ∀ (A B : List (List UInt8)) (i : Nat), A ≠ [] → B ≠ [] → rn k c i (A ++ B) = rn k [] i A ++ rn k c k B
 | [], B, i, h, _ => absurd rfl h
 | [x], b :: B, i, _, _ => by
  show List.replicate i 32 ++ (x ++ 10 :: rn k c k (b :: B)) = (List.replicate i 32 ++ (x ++ ([] ++ [10]))) ++ rn k c k (b :: B)
  simp
 | [x], [], i, _, h => absurd rfl h
 | x :: y :: r, B, i, _, h => by
  have e := rn_app k c (y :: r) B k (by simp) h
  rw [List.cons_append] at e
  show List.replicate i 32 ++ (x ++ 10 :: rn k c k (y :: (r ++ B))) = (List.replicate i 32 ++ (x ++ 10 :: rn k [] k (y :: r))) ++ rn k c k B
  rw [e]
  simp
theorem begins_sps (n : Nat) (l : List UInt8) : ∀ i, Begins n (List.replicate i 32 ++ l) [] l
 | 0 => by simpa using Begins.same n l
 | i + 1 => by
  have h := (begins_sp n (List.replicate i 32 ++ l)).trans (begins_sps n l i)
  rw [List.replicate_succ]
  exact h
theorem delim_cls (m : Nat) (r : List UInt8) : Delim (List.replicate m 41 ++ 10 :: r) := by
 cases m with
 | zero => exact delim_nl r
 | succ m =>
  rw [List.replicate_succ]
  exact delim_cl _
section
variable (nm kp : List UInt8 → List UInt8 → List UInt8)
theorem tkO_list {a d : Ob} (h : isQU a d = false) : tkO kp (.cons a d) = (1, [], [], []) :: (tkO kp a ++ tkT kp d) := by
 cases d with
 | cons x e =>
  have hq : ¬ (a = quoteO ∧ e = .nil) := fun h' => by simp [isQU, h'.1, h'.2] at h
  rw [tkO, if_neg hq]
 | num q => rw [tkO]
 | str s => rw [tkO]
 | sym p m => rw [tkO]
mutual
theorem reads_ob (n : Nat) : ∀ (o : Ob), OkP (SymRd nm kp n) o → ∀ (W : Int) (k m i : Nat) (r : List UInt8), Begins n (rn k (List.replicate m 41) i (linT W (trO nm o)) ++ r) (tkO kp o) (List.replicate m 41 ++ 10 :: r)
 | .num q, h, W, k, m, i, r => by
  have := begins_ob nm kp n (.num q) (List.replicate m 41 ++ 10 :: r) h (delim_cls m r)
  rw [lin_one nm (.inr (by unfold trO; simp [Tr.l]))]
  have e : rn k (List.replicate m 41) i [prO nm (.num q)] ++ r = List.replicate i 32 ++ (prO nm (.num q) ++ (List.replicate m 41 ++ 10 :: r)) := by simp [rn]
  rw [e]
  exact (begins_sps n _ i).trans this
 | .str q, h, W, k, m, i, r => by
  have := begins_ob nm kp n (.str q) (List.replicate m 41 ++ 10 :: r) h (delim_cls m r)
  rw [lin_one nm (.inr (by unfold trO; simp [Tr.l]))]
  have e : rn k (List.replicate m 41) i [prO nm (.str q)] ++ r = List.replicate i 32 ++ (prO nm (.str q) ++ (List.replicate m 41 ++ 10 :: r)) := by simp [rn]
  rw [e]
  exact (begins_sps n _ i).trans this
 | .sym p q, h, W, k, m, i, r => by
  have := begins_ob nm kp n (.sym p q) (List.replicate m 41 ++ 10 :: r) h (delim_cls m r)
  rw [lin_one nm (.inr (by unfold trO; simp [Tr.l]))]
  have e : rn k (List.replicate m 41) i [prO nm (.sym p q)] ++ r = List.replicate i 32 ++ (prO nm (.sym p q) ++ (List.replicate m 41 ++ 10 :: r)) := by simp [rn]
  rw [e]
  exact (begins_sps n _ i).trans this
 | .cons a d, h, W, k, m, i, r => by
  by_cases hc : ((prO nm (.cons a d)).length : Int) ≤ W ∨ (trO nm (.cons a d)).l.length < 2
  · have := begins_ob nm kp n (.cons a d) (List.replicate m 41 ++ 10 :: r) h (delim_cls m r)
    rw [lin_one nm hc]
    have e : rn k (List.replicate m 41) i [prO nm (.cons a d)] ++ r = List.replicate i 32 ++ (prO nm (.cons a d) ++ (List.replicate m 41 ++ 10 :: r)) := by simp [rn]
    rw [e]
    exact (begins_sps n _ i).trans this
  · rw [lin_many nm hc]
    have el : (trO nm (.cons a d)).l = (if isQU a d = true then [] else if prpU d = true then trO nm a :: trE nm d else []) := rfl
    have hq : isQU a d = false := by
     cases hq : isQU a d with
     | false => rfl
     | true => rw [el, hq] at hc; exact absurd (.inr (by simp)) hc
    have hp : prpU d = true := by
     cases hp : prpU d with
     | true => rfl
     | false => rw [el, hq, hp] at hc; exact absurd (.inr (by simp)) hc
    rw [hq, hp] at el
    have el2 : (trO nm (.cons a d)).l = trO nm a :: trE nm d := by simpa using el
    rw [el2, rn_clo, rn_opn _ _ _ (linTs_ne (W - 1) _ (by simp)), tkO_list kp hq]
    have hd := reads_el n d h.2 hp a (fun W k m i r => reads_ob n a h.1 W k m i r) (W - 1) (k + 1) m 0 r
    have e : linTs (W - 1) (trO nm a :: trE nm d) = linT (W - 1) (trO nm a) ++ linTs (W - 1) (trE nm d) := by rw [linTs]
    rw [e]
    have e2 : ∀ X : List UInt8, (List.replicate i 32 ++ 40 :: X) ++ r = List.replicate i 32 ++ 40 :: (X ++ r) := fun X => by simp
    rw [e2]
    exact (begins_sps n _ i).trans ((begins_open n _).trans hd)
theorem reads_el (n : Nat) : ∀ (d : Ob), OkP (SymRd nm kp n) d → prpU d = true → ∀ (a : Ob), (∀ (W : Int) (k m i : Nat) (r : List UInt8), Begins n (rn k (List.replicate m 41) i (linT W (trO nm a)) ++ r) (tkO kp a) (List.replicate m 41 ++ 10 :: r)) →
 ∀ (W : Int) (k m i : Nat) (r : List UInt8), Begins n (rn k (41 :: List.replicate m 41) i (linT W (trO nm a) ++ linTs W (trE nm d)) ++ r) (tkO kp a ++ tkT kp d) (List.replicate m 41 ++ 10 :: r)
 | .num q, h, hp, a, ha, W, k, m, i, r => by simp [prpU, Ob.nil] at hp
 | .str q, h, hp, a, ha, W, k, m, i, r => by simp [prpU, Ob.nil] at hp
 | .sym p q, h, hp, a, ha, W, k, m, i, r => by
  have e0 : Ob.sym p q = .nil := by simpa [prpU] using hp
  have e1 : linTs W (trE nm (.sym p q)) = [] := by simp [trE, linTs]
  have e2 : tkT kp (.sym p q) = [(2, [], [], [])] := by rw [tkT, if_pos e0]
  rw [e1, e2, List.append_nil]
  have h1 := ha W k (m + 1) i r
  rw [List.replicate_succ] at h1
  exact h1.trans (begins_close n _)
 | .cons a' d', h, hp, a, ha, W, k, m, i, r => by
  have e1 : linTs W (trE nm (.cons a' d')) = linT W (trO nm a') ++ linTs W (trE nm d') := by
   rw [show trE nm (.cons a' d') = trO nm a' :: trE nm d' by rw [trE], linTs]
  have e2 : tkT kp (.cons a' d') = tkO kp a' ++ tkT kp d' := by rw [tkT]
  have hd := reads_el n d' h.2 hp a' (fun W k m i r => reads_ob n a' h.1 W k m i r) W k m k r
  rw [e1, e2, rn_app _ _ _ _ _ (linT_ne W _) (by have := linT_ne W (trO nm a'); simp [this])]
  have h1 := ha W k 0 i (rn k (41 :: List.replicate m 41) k (linT W (trO nm a') ++ linTs W (trE nm d')) ++ r)
  rw [List.replicate_zero, List.nil_append] at h1
  rw [List.append_assoc]
  exact h1.trans ((begins_nl n _).trans hd)
end
variable (sym : Tk → (List UInt8 × List UInt8) × Int)
/-- A text that begins with an object's tokens, and holds no others. -/
theorem read_any (o : Ob) (n : Nat) (bs r : List UInt8) (q : Int) (hB : Begins n bs (tkO kp o) r) (he : toksL okP numP sizP n r = .ok [⟨0, q, [], [], []⟩]) (h2 : OkP (SymOf kp sym) o) (hn : o.nodes ≤ 201) :
 ∃ ts p, toksL okP numP sizP n bs = .ok ts ∧ allF sym numT' ts.length [] ts = (.ok [(o, p)], true) ∧ ts.length = (tkO kp o).length + 1 := by
 obtain ⟨ts, hk, hb⟩ := hB
 have ht := hb _ he
 have hpos := tkO_pos kp o
 rw [← hk, List.length_map] at hpos
 cases ts with
 | nil => simp at hpos
 | cons t ts =>
  obtain ⟨_, _, n0⟩ := tkO_head kp hk
  have hlen : (tkO kp o).length = ts.length + 1 := by rw [← hk]; simp
  refine ⟨_, t.p, ht, ?_, by rw [hlen]; simp⟩
  have hp := par_ob kp sym o (2 * ((ts ++ [(⟨0, q, [], [], []⟩ : Tk)]).length + 1) + 2) 0 (t :: ts) [⟨0, q, [], [], []⟩] h2 hk (by simp; omega) (by omega)
  rw [List.cons_append] at hp ⊢
  show allF sym numT' ((ts ++ [_]).length + 1) [] (t :: (ts ++ [_])) = _
  rw [allF, if_neg n0, if_neg (by simp), hp]
  simp only
  rw [if_neg (by omega)]
  have : (ts ++ [(⟨0, q, [], [], []⟩ : Tk)]).length = ts.length + 1 := by simp
  rw [this, List.nil_append, allF]
  simp
end
/-- The lines' text of an object that can be printed is read as the object. -/
theorem lines_read (l : List Sy.Pg) (cur : ByteArray) (o : Ob) (W : Int) (n : Nat) (h : PrOkU l o) (hn : o.nodes ≤ 201) :
 ∃ ts p, toksL okP numP sizP n ((linT W (trO (nmU l cur) o)).flatMap (· ++ [10])) = .ok ts ∧ allF (symL l cur) numT' ts.length [] ts = (.ok [(o, p)], true) ∧ ts.length = (tkO (kpS l cur) o).length + 1 := by
 have hB := reads_ob (nmU l cur) (kpS l cur) n o (prOk_rd l cur n h) W 0 0 0 []
 rw [List.replicate_zero, rn_flat, List.append_nil, List.nil_append] at hB
 have he : toksL okP numP sizP n [10] = .ok [⟨0, n, [], [], []⟩] := by rw [toksL_eq, skipL_cons, show blankB 10 = true from by decide, if_pos rfl, skipL_nil]
 exact read_any (kpS l cur) (symL l cur) o n _ _ _ hB he (prOk_of l cur h) hn
/-- All the bytes of these lines. -/
def sumL : List (List UInt8) → Nat
 | [] => 0
 | x :: r => x.length + sumL r
theorem sumL_app : ∀ a b, sumL (a ++ b) = sumL a + sumL b
 | [], b => by simp [sumL]
 | x :: r, b => by
  have := sumL_app r b
  rw [List.cons_append]
  simp only [sumL]
  omega
theorem sumL_map : ∀ l : List (List UInt8), sumL (l.map (32 :: ·)) = sumL l + l.length
 | [] => rfl
 | x :: r => by
  have := sumL_map r
  simp only [List.map_cons, sumL, List.length_cons]
  omega
theorem sumL_opn (l : List (List UInt8)) : sumL (opn l) = sumL l + l.length := by
 cases l with
 | nil => rfl
 | cons x r =>
  have := sumL_map r
  simp only [opn, sumL, List.length_cons]
  omega
theorem sumL_clo : ∀ l : List (List UInt8), sumL (clo l) ≤ sumL l + 1
 | [] => by simp [clo, sumL]
 | [x] => by simp [clo, sumL]
 | x :: y :: r => by
  have := sumL_clo (y :: r)
  simp only [clo, sumL] at this ⊢
  omega
theorem flat_len : ∀ l : List (List UInt8), (l.flatMap (· ++ [10])).length = sumL l + l.length
 | [] => rfl
 | x :: r => by
  have := flat_len r
  simp only [List.flatMap_cons, List.length_append, List.length_cons, List.length_nil, sumL]
  omega
theorem mul_le_more {a b x y : Nat} : a * x + b * y ≤ (a + b) * (x + y) := by
 have e : (a + b) * (x + y) = a * x + a * y + (b * x + b * y) := by rw [Nat.add_mul, Nat.mul_add, Nat.mul_add]
 rw [e]
 omega
section
variable (nm : List UInt8 → List UInt8 → List UInt8)
mutual
theorem sumO : ∀ (o : Ob) (W : Int), ∃ x, sumL (linT W (trO nm o)) ≤ (prO nm o).length + (linT W (trO nm o)).length * x ∧ (linT W (trO nm o)).length + x ≤ szT (trO nm o)
 | .num q, W => by
  rw [lin_one nm (.inr (by unfold trO; simp [Tr.l]))]
  exact ⟨0, by simp [sumL], by have := szT_pos (trO nm (.num q)); simpa using this⟩
 | .str q, W => by
  rw [lin_one nm (.inr (by unfold trO; simp [Tr.l]))]
  exact ⟨0, by simp [sumL], by have := szT_pos (trO nm (.str q)); simpa using this⟩
 | .sym p q, W => by
  rw [lin_one nm (.inr (by unfold trO; simp [Tr.l]))]
  exact ⟨0, by simp [sumL], by have := szT_pos (trO nm (.sym p q)); simpa using this⟩
 | .cons a d, W => by
  by_cases hc : ((prO nm (.cons a d)).length : Int) ≤ W ∨ (trO nm (.cons a d)).l.length < 2
  · rw [lin_one nm hc]
    exact ⟨0, by simp [sumL], by have := szT_pos (trO nm (.cons a d)); simpa using this⟩
  · rw [lin_many nm hc]
    have el : (trO nm (.cons a d)).l = (if isQU a d = true then [] else if prpU d = true then trO nm a :: trE nm d else []) := rfl
    have hq : isQU a d = false := by
     cases hq : isQU a d with
     | false => rfl
     | true => rw [el, hq] at hc; exact absurd (.inr (by simp)) hc
    have hp : prpU d = true := by
     cases hp : prpU d with
     | true => rfl
     | false => rw [el, hq, hp] at hc; exact absurd (.inr (by simp)) hc
    rw [hq, hp] at el
    have el2 : (trO nm (.cons a d)).l = trO nm a :: trE nm d := by simpa using el
    have es : szT (trO nm (.cons a d)) = 1 + (szT (trO nm a) + szTs (trE nm d)) := by
     rw [tr_eq nm (.cons a d), el2, szT, szTs]
    obtain ⟨x, h1, h2⟩ := sumO a (W - 1)
    obtain ⟨y, h3, h4⟩ := sumE d hp (W - 1)
    rw [el2, es]
    have e : linTs (W - 1) (trO nm a :: trE nm d) = linT (W - 1) (trO nm a) ++ linTs (W - 1) (trE nm d) := by rw [linTs]
    rw [e]
    have hs1 := sumL_clo (opn (linT (W - 1) (trO nm a) ++ linTs (W - 1) (trE nm d)))
    rw [sumL_opn, sumL_app, List.length_append] at hs1
    rw [clo_len, opn_len, List.length_append]
    have et : (prO nm (.cons a d)).length = 1 + ((prO nm a).length + (prT nm d).length) := by
     rw [prO_cons, hq]
     simp
     omega
    have hm := mul_le_more (a := (linT (W - 1) (trO nm a)).length) (b := (linTs (W - 1) (trE nm d)).length) (x := x) (y := y)
    refine ⟨x + y + 1, ?_, by omega⟩
    rw [et, Nat.mul_add, Nat.mul_one]
    omega
theorem sumE : ∀ (d : Ob), prpU d = true → ∀ (W : Int), ∃ x, sumL (linTs W (trE nm d)) + 1 ≤ (prT nm d).length + (linTs W (trE nm d)).length * x ∧ (linTs W (trE nm d)).length + x ≤ szTs (trE nm d)
 | .num q, hp, W => by simp [prpU, Ob.nil] at hp
 | .str q, hp, W => by simp [prpU, Ob.nil] at hp
 | .sym p q, hp, W => by
  have e0 : Ob.sym p q = .nil := by simpa [prpU] using hp
  refine ⟨0, ?_, by simp [trE, linTs]⟩
  have e1 : linTs W (trE nm (.sym p q)) = [] := by simp [trE, linTs]
  rw [e1, e0]
  simp [sumL, prT, Ob.nil]
 | .cons a d, hp, W => by
  obtain ⟨x, h1, h2⟩ := sumO a W
  obtain ⟨y, h3, h4⟩ := sumE d hp W
  have e1 : linTs W (trE nm (.cons a d)) = linT W (trO nm a) ++ linTs W (trE nm d) := by
   rw [show trE nm (.cons a d) = trO nm a :: trE nm d by rw [trE], linTs]
  have e2 : szTs (trE nm (.cons a d)) = szT (trO nm a) + szTs (trE nm d) := by
   rw [show trE nm (.cons a d) = trO nm a :: trE nm d by rw [trE], szTs]
  have e3 : (prT nm (.cons a d)).length = 1 + ((prO nm a).length + (prT nm d).length) := by
   have : prT nm (.cons a d) = 32 :: (prO nm a ++ prT nm d) := rfl
   rw [this]
   simp
   omega
  have hm := mul_le_more (a := (linT W (trO nm a)).length) (b := (linTs W (trE nm d)).length) (x := x) (y := y)
  rw [e1, e2, e3, sumL_app, List.length_append]
  exact ⟨x + y, by omega, by omega⟩
end
mutual
theorem szT_half : ∀ o : Ob, 2 * szT (trO nm o) ≤ o.nodes + 1
 | .num q => by unfold trO szT; simp [szTs, Ob.nodes]
 | .str q => by unfold trO szT; simp [szTs, Ob.nodes]
 | .sym p q => by unfold trO szT; simp [szTs, Ob.nodes]
 | .cons a d => by
  have h1 := szT_half a
  have h2 := szTs_half d
  have hn : (Ob.cons a d).nodes = 1 + a.nodes + d.nodes := rfl
  unfold trO szT
  split
  · simp [szTs]; omega
  · split
    · rw [show szTs (trO nm a :: trE nm d) = szT (trO nm a) + szTs (trE nm d) by rw [szTs]]
      omega
    · simp [szTs]; omega
theorem szTs_half : ∀ d : Ob, 2 * szTs (trE nm d) + 1 ≤ d.nodes
 | .num q => by simp [trE, szTs, Ob.nodes]
 | .str q => by simp [trE, szTs, Ob.nodes]
 | .sym p q => by simp [trE, szTs, Ob.nodes]
 | .cons a d => by
  have h1 := szT_half a
  have h2 := szTs_half d
  have hn : (Ob.cons a d).nodes = 1 + a.nodes + d.nodes := rfl
  rw [show trE nm (.cons a d) = trO nm a :: trE nm d by rw [trE], show szTs (trO nm a :: trE nm d) = szT (trO nm a) + szTs (trE nm d) by rw [szTs]]
  omega
end
end
theorem mul81 {a b : Nat} (h : a + b ≤ 81) : a * b ≤ 1640 := by
 have key : ∀ k : Fin 82, k.1 * (81 - k.1) ≤ 1640 := by decide
 exact Nat.le_trans (Nat.mul_le_mul_left a (show b ≤ 81 - a by omega)) (key ⟨a, by omega⟩)
/-- How long the text of a made object can be: half of the nodes are conses. -/
theorem prO_tx2 {nm : List UInt8 → List UInt8 → List UInt8} (hnm : ∀ p n, SyOk p n → n.length ≤ 8 → (nm p n).length ≤ 26) : ∀ (m : Nat) (o : Ob), o.nodes ≤ m → o.bd 10 → o.tx → 2 * (prO nm o).length ≤ 35 * o.nodes + 25 ∧ 2 * (prT nm o).length ≤ 35 * o.nodes + 33 := by
 intro m
 induction m with
 | zero => intro o h; have := o.nodes_pos; omega
 | succ m ih =>
  intro o hm hb hx
  have atom : ∀ o : Ob, o.isCons = false → o.nodes = 1 → (prO nm o).length ≤ 30 → 2 * (prO nm o).length ≤ 35 * o.nodes + 25 ∧ 2 * (prT nm o).length ≤ 35 * o.nodes + 33 := fun o hf h1 h => by
   rw [prT_atom nm hf, h1]
   refine ⟨by omega, ?_⟩
   split
   · simp
   · simp only [List.length_cons, List.length_append, List.length_nil]; omega
  cases o with
  | num q => exact atom (.num q) rfl rfl (by have := numS_len (show Bd 10 q from hb); show (numS q).length ≤ 30; omega)
  | str s => exact atom (.str s) rfl rfl (by have := escL_len 34 s; have h2 : s.length ≤ 12 := hx; show (escL 34 s).length ≤ 30; omega)
  | sym x y => exact atom (.sym x y) rfl rfl (by have := hnm x y hb hx; show (nm x y).length ≤ 30; omega)
  | cons a d =>
   have hn : (Ob.cons a d).nodes = 1 + a.nodes + d.nodes := rfl
   obtain ⟨a1, _⟩ := ih a (by omega) hb.1 hx.1
   obtain ⟨_, d2⟩ := ih d (by omega) hb.2 hx.2
   refine ⟨?_, ?_⟩
   · rw [prO_cons, hn]
     split
     · rename_i hq
       cases d with
       | num q => cases hq
       | str s => cases hq
       | sym x y => cases hq
       | cons x e' =>
        have hd : (Ob.cons x e').nodes = 1 + x.nodes + e'.nodes := rfl
        obtain ⟨x1, _⟩ := ih x (by omega) hb.2.1 hx.2.1
        show 2 * ((prO nm x).length + 1) ≤ _
        omega
     · simp only [List.length_cons, List.length_append]
       omega
   · have e2 : prT nm (.cons a d) = 32 :: (prO nm a ++ prT nm d) := rfl
     rw [e2, hn]
     simp only [List.length_cons, List.length_append]
     omega
/-- The lines' text of a made object is no longer than a source may be. -/
theorem flat_made (l : List Sy.Pg) (cur : ByteArray) (o : Ob) (W : Int) (h : OkO 159 o) : ((linT W (trO (nmU l cur) o)).flatMap (· ++ [10])).length ≤ 6000 := by
 have h1 := (prO_tx2 (nmU_len26 l cur) 159 o h.nodes h.bd h.tx).1
 have h2 := h.nodes
 have h3 := szT_half (nmU l cur) o
 obtain ⟨x, h4, h5⟩ := sumO (nmU l cur) o W
 have h6 := mul81 (a := (linT W (trO (nmU l cur) o)).length) (b := x + 1) (by omega)
 rw [Nat.mul_add, Nat.mul_one] at h6
 rw [flat_len]
 omega
/-- One answers the object of its lines' text; there are as many tokens as in the text of one line. -/
theorem one_lines (l : List Sy.Pg) (cur : ByteArray) (o : Ob) (W : Int) (h : OkO 159 o) (hc : homeO l o = true) : oneS l cur (BA ((linT W (trO (nmU l cur) o)).flatMap (· ++ [10]))) = .ok o ∧ SmS (BA ((linT W (trO (nmU l cur) o)).flatMap (· ++ [10]))) ∧
 ∃ ts us, scanS (BA ((linT W (trO (nmU l cur) o)).flatMap (· ++ [10]))) = .ok ts ∧ scanS (BA (prO (nmU l cur) o)) = .ok us ∧ ts.length = us.length ∧ ts.length ≤ 700 := by
 have hz := flat_made l cur o W h
 have hp : PrOkU l o := homeM_of hc (Ob.bd_more (by decide) h.bd)
 have hn : o.nodes ≤ 201 := by have := h.nodes; omega
 have hsz : (BA ((linT W (trO (nmU l cur) o)).flatMap (· ++ [10]))).size ≤ 6000 := by rw [BA_size]; exact hz
 have hz2 : (BA (prO (nmU l cur) o)).size ≤ 6000 := by
  rw [BA_size]
  have h1 := (prO_tx (nmU_len26 l cur) 159 o h.nodes h.bd h.tx).1
  have h2 := h.nodes
  omega
 obtain ⟨ts, p, h1, h2, h3⟩ := lines_read l cur o W (BA ((linT W (trO (nmU l cur) o)).flatMap (· ++ [10]))).size hp hn
 obtain ⟨us, q, g1, g2, g3⟩ := print_read l cur o (BA (prO (nmU l cur) o)).size hp hn
 have hs : scanS (BA ((linT W (trO (nmU l cur) o)).flatMap (· ++ [10]))) = .ok ts := by rw [scanS_small hsz, LA_BA]; exact h1
 have hs2 : scanS (BA (prO (nmU l cur) o)) = .ok us := by rw [scanS_small hz2, LA_BA]; exact g1
 have hl := (tkO_len (kpS l cur) o.nodes o (Nat.le_refl _)).1
 refine ⟨?_, ⟨by omega, fun ts' h => ?_⟩, ts, us, hs, hs2, by omega, by omega⟩
 · unfold oneS readS readL
   rw [hs]
   have e : (numK : Tk → Rat) = numT' := rfl
   rw [e]
   simp only
   rw [h2]
 · rw [hs] at h
   injection h with h
   subst h
   omega
/-- The lines one behind the other. -/
def flatL (ls : List (List UInt8)) : List UInt8 := ls.flatMap (· ++ [10])
theorem flatL_app (a b : List (List UInt8)) : flatL (a ++ b) = flatL a ++ flatL b := by simp [flatL]
theorem flatL_take {ls : List (List UInt8)} {i : Nat} {z : List UInt8} (h : ls[i]? = some z) : flatL (ls.take (i + 1)) = flatL (ls.take i) ++ (z ++ [10]) := by
 obtain ⟨hi, e⟩ := List.getElem?_eq_some_iff.1 h
 rw [List.take_succ_eq_append_getElem hi, flatL_app, e]
 simp [flatL]
theorem flatL_le {ls : List (List UInt8)} {i : Nat} {z : List UInt8} (h : ls[i]? = some z) : (flatL (ls.take i)).length + (z.length + 1) ≤ (flatL ls).length := by
 have h1 := flatL_take h
 have h2 : flatL ls = flatL (ls.take (i + 1)) ++ flatL (ls.drop (i + 1)) := by rw [← flatL_app, List.take_append_drop]
 rw [h2, h1]
 simp only [List.length_append, List.length_cons, List.length_nil]
 omega
theorem TKS {w : World} {B : Nat} {ts : List Tk} {v : Value} (h : TkV w B ts v) : ∃ A c, v = .slice A ts.length c := by
 obtain ⟨A, c, h1, _⟩ := h
 exact ⟨A, c, h1⟩
theorem outV_ok {w w' : World} {ts : List Tk} {e : Ending} (h : OutV w (.ok ts) e w') : Below w.heap.size w w' ∧ ∃ A c, e = .returned (.tuple #[.slice A ts.length c, .agg #[.int .i64 0, .int .i64 0]]) := by
 obtain ⟨hb, v, rfl, hv⟩ := h
 obtain ⟨A, c, rfl⟩ := (TKS hv)
 exact ⟨hb, A, c, rfl⟩
theorem linesTripW (r : Rw) (r0 r1 r2 r3 : Value) (n : Int) (w : World) (hr : RawAt w (Has w) r [r0, r1, r2, r3]) (hT : EscT w) (ht : Tab w) (hn : -9223372036854775808 ≤ n) (hn' : n ≤ 9223372036854775807) :
 Calls Tryz.prog 7 #[.agg #[r0, r1, r2, r3], .int .i64 n] w (RetB w true) := by
 have HT := qh9 hT
 have RR := qh9 hr
 have HTB := qh9 ht
 have CF : Hid (∀ X, Below w.heap.size w X → Calls Tryz.prog 16 #[.agg #[r0, r1, r2, r3], .int .i64 40] X (fun e w' => e = .returned (.bool (few r 40)) ∧ Below X.heap.size X w')) := fun X h => fewO r [r0, r1, r2, r3] 40 X (Has w) (In.has w |>.later h.size) (RR.out.below (In.has w) h) (by decide) (by decide)
 have KO : Hid (few r 40 = true → ∀ X, Below w.heap.size w X → Calls Tryz.prog 17 #[.agg #[r0, r1, r2, r3]] X (RetX X 159)) := fun hf X h => by
  obtain ⟨hok, hcn⟩ := few_ok hf
  exact (objectO r [r0, r1, r2, r3] X (Has w) (In.has w |>.later h.size) (RR.out.below (In.has w) h) hok (HTB.out.below h)).mono fun _ _ hr => hr.le (by omega)
 generalize few r 40 = ff at CF KO
 clear hT hr ht
 go_enter Tryz.func7, Tryz.ntmps7
 go_upto_region 1 with fail
 have hr0 := qh9 (heap_alloc_new w (.cells #[r0, r1, r2, r3] 35))
 have HB := qh9 (below_al w (.cells #[r0, r1, r2, r3] 35))
 generalize w.alloc (.cells #[r0, r1, r2, r3] 35) = W at hr0 HB ⊢
 have BR : Hid (RwB W w.heap.size r0 r1 r2 r3) := hr0.out
 clear hr0
 go_wp2_with fail
 with_reducible refine (first6 W (HT.out.keep HB.out)).mono ?_
 rintro e w1 ⟨rfl, hb⟩
 replace BR := qh9 (BR.out.keep hb)
 replace HB := qc9 HB hb
 clear hb
 obtain ⟨c0, c1, c2, c3⟩ := BR.out.c
 go_wp2_with fail
 with_reducible refine (CF.out _ HB.out).mono ?_
 rintro e w2 ⟨rfl, hb⟩
 replace BR := qh9 (BR.out.keep hb)
 replace HB := qc9 HB hb
 clear hb c0 c1 c2 c3 CF
 cases ff with
 | false =>
  go_wp2
  go_ret
  exact ⟨rfl, HB.out⟩
 | true =>
  obtain ⟨c0, c1, c2, c3⟩ := BR.out.c
  go_wp2_with fail
  with_reducible refine (KO.out (by simp) _ HB.out).mono ?_
  intro e w3 hx
  obtain ⟨o, p, rfl, hp, hb, ok⟩ := RetX.hU hx
  replace HB := qc9 HB hb
  have HP := qh9 hp
  have OK := qh9 ok
  have T1 := qh9 (aO_new w3 #[.int .i64 0, .string ⟨#[]⟩, .string ⟨#[]⟩, .string ⟨#[]⟩, .string ⟨#[]⟩, .string ⟨#[]⟩, .slice none 0 0])
  unfold aO at T1
  clear hp ok hb c0 c1 c2 c3 BR KO RR HTB
  go_upto_region 6 with ((with_reducible refine storeB (w1 := w3) (g := w3.heap.size) (b := o) (p := p) (.tmp 5) (.tmp 24) ?_ ?_ ?_ ?_ HP.out T1.out ?_); rfl; rfl; rfl; rfl; have P := Pt1U.new (w := w3) (o := o) (p := p) (z := #[.int .i64 0, .string ⟨#[]⟩, .string ⟨#[]⟩, .string ⟨#[]⟩, .string ⟨#[]⟩, .string ⟨#[]⟩, .slice none 0 0]); generalize World.setRow (w3.alloc (.cells #[.int .i64 0, .string ⟨#[]⟩, .string ⟨#[]⟩, .string ⟨#[]⟩, .string ⟨#[]⟩, .string ⟨#[]⟩, .slice none 0 0] 39)) w3.heap.size (cellsO o p).toArray = X at P ⊢; replace HB := qh9 (chain2 HB.out P.bel (Nat.le_refl _)); replace HP := qh9 (HP.out.below P.bel); have D0 := qh9 P.b0; clear P T1)
  generalize w3.heap.size = gb at D0 ⊢
  obtain ⟨x0, x1, x2, x3, x4, x5, eo⟩ := cells7 o p
  have BO : Hid (Bx X gb #[x0, x1, x2, x3, x4, x5, p]) := by
   have := D0.out
   rwa [eo] at this
  have EV := qh9 (vO_cells eo)
  have BC : Hid (Bx X gb (cellsO o p).toArray) := D0.out
  clear D0 eo
  obtain ⟨Ts, LS, Vc, hp1, hl1, h0⟩ : ∃ (Ts : ByteArray) (LS : List (List UInt8)) (c : Int), prV userM ⟨#[117, 115, 101, 114]⟩ o true = (Ts, c) ∧ lnV userM ⟨#[117, 115, 101, 114]⟩ o true n = (LS, c) ∧ LS.length ≤ 3000 ∧ (c = 0 → Ts = BA (prO (nmU userM ⟨#[117, 115, 101, 114]⟩) o) ∧ LS = linT n (trO (nmU userM ⟨#[117, 115, 101, 114]⟩) o) ∧ homeO userM o = true) := by
   have h1 := linT_len n (trO (nmU userM ⟨#[117, 115, 101, 114]⟩) o)
   have h2 := szT_trO (nmU userM ⟨#[117, 115, 101, 114]⟩) o
   have h3 := OK.out.nodes
   by_cases hc : chkV userM ⟨#[117, 115, 101, 114]⟩ o true = 0
   · exact ⟨_, _, 0, by unfold prV; rw [if_pos hc], by unfold lnV; rw [if_pos hc], by omega, fun _ => ⟨rfl, rfl, chk_home hc⟩⟩
   · exact ⟨_, _, _, by unfold prV; rw [if_neg hc], by unfold lnV; rw [if_neg hc], by simp, fun h => absurd h hc⟩
  obtain ⟨hsl, h0⟩ := h0
  have CP : Hid (∀ X' y, Below X.heap.size X X' → Sy.PgV X' userM y → Calls Tryz.prog 18 #[y, .string ⟨#[117, 115, 101, 114]⟩, .agg #[x0, x1, x2, x3, x4, x5, p]] X' (RetTE X' Ts Vc)) := fun X' y hX hy => by
   have bd := Ob.bd_more (show 10 ≤ 90 by decide) OK.out.bd
   have := printP userM y ⟨#[117, 115, 101, 114]⟩ o p true X' hy (by decide) (by decide) (HT.out.keep (HB.out.trans (hX.mono HB.out.size))) (HP.out.below hX) 90 (by decide) bd (by have := OK.out.nodes; omega) (fun Y hY => validP o p Y (Has Y) bd (by have := OK.out.nodes; omega) (In.has Y) ((HP.out.below hX).below hY))
   rwa [EV.out, hp1] at this
  have CR : Hid (∀ X' y, Below X.heap.size X X' → Sy.PgV X' userM y → Calls Tryz.prog 20 #[y, .string ⟨#[117, 115, 101, 114]⟩, .agg #[x0, x1, x2, x3, x4, x5, p], .int .i64 n] X' (RetLn X' LS Vc)) := fun X' y hX hy => by
   have bd := Ob.bd_more (show 10 ≤ 90 by decide) OK.out.bd
   have := linesP userM y ⟨#[117, 115, 101, 114]⟩ o p true n X' hy (by decide) (by decide) (HT.out.keep (HB.out.trans (hX.mono HB.out.size))) (HP.out.below hX) 90 (by decide) bd (by have := OK.out.nodes; omega) (fun Y hY => validP o p Y (Has Y) bd (by have := OK.out.nodes; omega) (In.has Y) ((HP.out.below hX).below hY))
   rwa [EV.out, hl1] at this
  have CO : Hid (Vc = 0 → (flatL LS).length ≤ 6000 ∧ (∀ X' y, Sy.PgV X' userM y → Calls Tryz.prog 22 #[y, .string ⟨#[117, 115, 101, 114]⟩, .string (BA (flatL LS))] X' (OutOn X' (.ok o))) ∧ ∃ k : Nat, k ≤ 700 ∧ (∀ X', Calls Tryz.prog 25 #[.string Ts] X' (fun e w' => Below X'.heap.size X' w' ∧ ∃ A c, e = .returned (.tuple #[.slice A k c, .agg #[.int .i64 0, .int .i64 0]]))) ∧
   (∀ X', Calls Tryz.prog 25 #[.string (BA (flatL LS))] X' (fun e w' => Below X'.heap.size X' w' ∧ ∃ A c, e = .returned (.tuple #[.slice A k c, .agg #[.int .i64 0, .int .i64 0]])))) := qh9 fun h => by
   obtain ⟨e1, e2, hh⟩ := h0 h
   obtain ⟨h1, h2, ts, us, h3, h4, h5, h6⟩ := one_lines userM ⟨#[117, 115, 101, 114]⟩ o n OK.out hh
   have h7 := flat_made userM ⟨#[117, 115, 101, 114]⟩ o n OK.out
   subst e1 e2
   refine ⟨h7, fun X' y hy => ?_, us.length, by omega, fun X' => ?_, fun X' => ?_⟩
   · have := onePr (BA (flatL (linT n (trO (nmU userM ⟨#[117, 115, 101, 114]⟩) o)))) ⟨#[117, 115, 101, 114]⟩ userM y X' hy userB5 h2
     rwa [show oneS userM ⟨#[117, 115, 101, 114]⟩ (BA (flatL (linT n (trO (nmU userM ⟨#[117, 115, 101, 114]⟩) o)))) = .ok o from h1] at this
   · have := tokensP (BA (prO (nmU userM ⟨#[117, 115, 101, 114]⟩) o)) X' (by
      have h1 := (prO_tx (nmU_len26 userM ⟨#[117, 115, 101, 114]⟩) 159 o OK.out.nodes OK.out.bd OK.out.tx).1
      have h2 := OK.out.nodes
      rw [BA_size]
      omega)
     rw [h4] at this
     exact this.mono fun _ _ h => outV_ok h
   · have := tokensP (BA (flatL (linT n (trO (nmU userM ⟨#[117, 115, 101, 114]⟩) o)))) X' (by rw [BA_size]; exact Nat.le_trans h7 (by decide))
     rw [show scanS (BA (flatL (linT n (trO (nmU userM ⟨#[117, 115, 101, 114]⟩) o)))) = .ok ts from h3] at this
     rw [← h5]
     exact this.mono fun _ _ h => outV_ok h
  have hc3 : Vc = 0 ∨ Vc ≠ 0 := by omega
  have HS : Hid (∀ X', ∃ bb, Calls Tryz.prog 24 #[.string Ts, .string ⟨#[10]⟩] X' (fun e w' => e = .returned (.bool bb) ∧ w' = X')) := qh9 fun X' => ⟨_, Tryz.strings_Contains_one Ts 10 X'⟩
  clear hp1 hl1 h0 OK
  have D0 := qh9 (BO.out.keep ((Below.refl X.heap.size X).drew))
  obtain ⟨m0, m1, m2, m3, m4, m5, m6⟩ := Bx.c BO.out
  obtain ⟨n0, n1, n2, n3, n4, n5, n6⟩ := Bx.c D0.out
  go_wp2_with fail
  go_region_held3 (fun W' => W'.cell? ⟨gb, 0, none⟩ = some x0 ∧ W'.cell? ⟨gb, 1, none⟩ = some x1 ∧ W'.cell? ⟨gb, 2, none⟩ = some x2 ∧ W'.cell? ⟨gb, 3, none⟩ = some x3 ∧ W'.cell? ⟨gb, 4, none⟩ = some x4 ∧ W'.cell? ⟨gb, 5, none⟩ = some x5 ∧ W'.cell? ⟨gb, 6, none⟩ = some p) (go_keep) ((first | (go_at_call 13; refine (packages6 _).mono ?_; rintro e x0a ⟨y0, rfl, hy, hb⟩; have HY0 := qh9 hy; have HR0 := qh9 ((Below.drew (Below.refl X.heap.size X)).trans hb); obtain ⟨q0, q1, q2, q3, q4, q5, q6⟩ := Bx.c (BO.out.keep HR0.out); clear hy hb) | (go_at_call 18; refine (CP.out x0a y0 HR0.out HY0.out).mono ?_; rintro e W0 ⟨rfl, hb⟩; have HG0 := qc9 HR0 hb; obtain ⟨t0, t1, t2, t3, t4, t5, t6⟩ := Bx.c (BO.out.keep HG0.out); clear hb)))
  replace BO := qh9 (BO.out.keep HG0.out)
  replace BC := qh9 (BC.out.keep HG0.out)
  replace HP := qh9 (HP.out.below HG0.out)
  replace HB := qh9 (chain2 HB.out HG0.out (Nat.le_refl _))
  try clear m0 m1 m2 m3 m4 m5 m6 n0 n1 n2 n3 n4 n5 n6
  have HC0 := qh9 HG0.out
  have D1 := qh9 (BO.out.keep ((Below.refl W0.heap.size W0).drew))
  obtain ⟨m0, m1, m2, m3, m4, m5, m6⟩ := Bx.c BO.out
  obtain ⟨n0, n1, n2, n3, n4, n5, n6⟩ := Bx.c D1.out
  go_wp2_with fail
  go_region_held3 (fun W' => W'.cell? ⟨gb, 0, none⟩ = some x0 ∧ W'.cell? ⟨gb, 1, none⟩ = some x1 ∧ W'.cell? ⟨gb, 2, none⟩ = some x2 ∧ W'.cell? ⟨gb, 3, none⟩ = some x3 ∧ W'.cell? ⟨gb, 4, none⟩ = some x4 ∧ W'.cell? ⟨gb, 5, none⟩ = some x5 ∧ W'.cell? ⟨gb, 6, none⟩ = some p) (go_keep) ((first | (go_at_call 13; refine (packages6 _).mono ?_; rintro e x1a ⟨y1, rfl, hy, hb⟩; have HY1 := qh9 hy; have HR1 := qh9 ((Below.drew (Below.refl W0.heap.size W0)).trans hb); obtain ⟨q0, q1, q2, q3, q4, q5, q6⟩ := Bx.c (BO.out.keep HR1.out); clear hy hb) | (go_at_call 20; refine (CR.out x1a y1 (chain2 HC0.out HR1.out (Nat.le_refl _)) HY1.out).mono ?_; rintro e W1 ⟨vl, rfl, hln, hb⟩; have HL := qh9 hln; clear hln; have HG1 := qc9 HR1 hb; obtain ⟨t0, t1, t2, t3, t4, t5, t6⟩ := Bx.c (BO.out.keep HG1.out); clear hb)))
  replace BO := qh9 (BO.out.keep HG1.out)
  replace BC := qh9 (BC.out.keep HG1.out)
  replace HP := qh9 (HP.out.below HG1.out)
  replace HB := qh9 (chain2 HB.out HG1.out (Nat.le_refl _))
  try clear m0 m1 m2 m3 m4 m5 m6 n0 n1 n2 n3 n4 n5 n6
  have hl := HL.out
  obtain ⟨A1, c1, rfl⟩ := own_shapeN hl
  have O1 : Hid (W1.ownsRow 0 9 1 (.slice A1 LS.length c1) LS.length (strC LS)) := own_baseU hl (Nat.zero_le _)
  obtain ⟨N, hN⟩ : ∃ N, LS.length = N := ⟨_, rfl⟩
  have HN := qh9 hN
  rw [hN] at O1 hsl ⊢
  clear hN hl HL HG0 HG1 HR0 HR1 HY0 HY1 HC0 D0 D1 CP CR
  by_cases hv0 : Vc = 0
  · subst hv0
    obtain ⟨hfl, C1, k, hk7, T1, T2⟩ := CO.out rfl
    replace C1 := qh9 C1
    replace T1 := qh9 T1
    replace T2 := qh9 T2
    obtain ⟨bb, hcon⟩ := HS.out W1
    have HCON := qh9 hcon
    clear CO hc3 HS hcon
    go_wp2_with fail
    with_reducible refine HCON.out.mono ?_
    rintro e w4 ⟨rfl, rfl⟩
    clear HCON
    cases bb with
    | true =>
     go_wp2
     go_ret
     exact ⟨rfl, HB.out⟩
    | false =>
    go_wp2_with fail
    go_loopw [10, 11] (fun tv iv wr => ∃ (i : Nat), i ≤ N ∧ iv = .int .i64 (i : Int) ∧ tv = .string (BA (flatL (LS.take i))) ∧ Hid (wr = w4)) (fun _ iv _ => N - (intOf iv).toNat)
    case atStart => exact ⟨0, Nat.zero_le _, rfl, rfl, rfl⟩
    case round =>
     obtain ⟨i, hi, rfl, rfl, hw⟩ := hrel
     have hw' := hw.out
     subst hw'
     clear hw
     by_cases hik : i < N
     · have hik2 : (i : Int) < (N : Int) := by omega
       obtain ⟨b1, d1, e1, _, _, _, _, g1⟩ := own_cells O1.out (by omega)
       injection e1 with e1 _ e12
       subst e1 e12
       obtain ⟨z, hz⟩ : ∃ z, LS[i]? = some z := ⟨_, List.getElem?_eq_getElem (by rw [HN.out]; exact hik)⟩
       have z1 : wr.cell? ⟨b1, i, none⟩ = some (.string (BA z)) := g1 i _ (by simp [strC, hz])
       have hle := flatL_le hz
       have htk := flatL_take hz
       have zz : (BA z).size = z.length := BA_size z
       have zf : (BA (flatL (LS.take i))).size = (flatL (LS.take i)).length := BA_size _
       have HEQ : Hid (BA (flatL (LS.take i)) ++ (BA z ++ ⟨#[10]⟩) = BA (flatL (LS.take (i + 1)))) := qh9 (by
        rw [htk, BA_app3 (flatL (LS.take i)) (z ++ [10]), BA_app3 z [10]]
        rfl)
       have hs1 : (BA z).size + 1 ≤ 9223372036854775807 := by omega
       have hs2 : (BA (flatL (LS.take i))).size + ((BA z).size + 1) ≤ 9223372036854775807 := by omega
       clear g1 hz htk hle zz zf
       generalize BA z = sz at z1 HEQ hs1 hs2
       generalize BA (flatL (LS.take i)) = sf at HEQ hs2 ⊢
       go_wp2_with fail
       go_roundw
       case rel => exact ⟨i + 1, by omega, by go_num, by rw [HEQ.out], qh9 (by first | rfl | trivial)⟩
       case measure => simp [intOf]; omega
     · have hik2 : ¬ (i : Int) < (N : Int) := by omega
       have e : LS.take i = LS := List.take_of_length_le (by rw [HN.out]; omega)
       rw [e]
       clear e
       go_wp2_with fail
       with_reducible refine (packages6 _).mono ?_
       rintro e w5 ⟨y2, rfl, hy, hb⟩
       replace BO := qh9 (BO.out.keep hb)
       replace BC := qh9 (BC.out.keep hb)
       replace HP := qh9 (HP.out.below hb)
       replace HB := qc9 HB hb
       have HY := qh9 hy
       clear hb hy
       go_wp2_with fail
       with_reducible refine (C1.out _ y2 HY.out).mono ?_
       rintro e w6 ⟨hb, q, rfl, hq⟩
       replace BO := qh9 (BO.out.keep hb)
       replace BC := qh9 (BC.out.keep hb)
       replace HP := qh9 (HP.out.below hb)
       replace HB := qc9 HB hb
       have HQ : Hid (Hd w6 o q) := hq.more (fun b h => h.2)
       clear hb hq C1 HY
       have A2 : Hid (Below w6.heap.size w6 ((w6.alloc (.cells #[.int .i64 0, .string ⟨#[]⟩, .string ⟨#[]⟩, .string ⟨#[]⟩, .string ⟨#[]⟩, .string ⟨#[]⟩, .slice none 0 0] 39)).alloc (.cells #[.int .i64 0, .int .i64 0] 46))) := (below_al w6 _).trans ((below_al _ _).mono (by simp))
       have B2 : Hid (Bx ((w6.alloc (.cells #[.int .i64 0, .string ⟨#[]⟩, .string ⟨#[]⟩, .string ⟨#[]⟩, .string ⟨#[]⟩, .string ⟨#[]⟩, .slice none 0 0] 39)).alloc (.cells #[.int .i64 0, .int .i64 0] 46)) w6.heap.size #[.int .i64 0, .string ⟨#[]⟩, .string ⟨#[]⟩, .string ⟨#[]⟩, .string ⟨#[]⟩, .string ⟨#[]⟩, .slice none 0 0]) := Bx.keep (aO_new w6 _) (below_al _ _)
       have E2 : Hid (EB ((w6.alloc (.cells #[.int .i64 0, .string ⟨#[]⟩, .string ⟨#[]⟩, .string ⟨#[]⟩, .string ⟨#[]⟩, .string ⟨#[]⟩, .slice none 0 0] 39)).alloc (.cells #[.int .i64 0, .int .i64 0] 46)) (w6.heap.size + 1) (.int .i64 0) (.int .i64 0)) := heap_alloc2_new w6 _ _
       have E3 : Hid (EB (((w6.alloc (.cells #[.int .i64 0, .string ⟨#[]⟩, .string ⟨#[]⟩, .string ⟨#[]⟩, .string ⟨#[]⟩, .string ⟨#[]⟩, .slice none 0 0] 39)).alloc (.cells #[.int .i64 0, .int .i64 0] 46)).setRow w6.heap.size (cellsO o q).toArray) (w6.heap.size + 1) (.int .i64 0) (.int .i64 0)) := E2.out.row (by omega) _
       have B4 : Hid (Bx ((((w6.alloc (.cells #[.int .i64 0, .string ⟨#[]⟩, .string ⟨#[]⟩, .string ⟨#[]⟩, .string ⟨#[]⟩, .string ⟨#[]⟩, .slice none 0 0] 39)).alloc (.cells #[.int .i64 0, .int .i64 0] 46)).setRow w6.heap.size (cellsO o q).toArray).setRow (w6.heap.size + 1) #[.int .i64 0, .int .i64 0]) w6.heap.size (cellsO o q).toArray) := (setRow_other _ _ _ _ (by omega)).trans (setRow_heap _ _ _ _ _ _ B2.out)
       have E4 : Hid (EB ((((w6.alloc (.cells #[.int .i64 0, .string ⟨#[]⟩, .string ⟨#[]⟩, .string ⟨#[]⟩, .string ⟨#[]⟩, .string ⟨#[]⟩, .slice none 0 0] 39)).alloc (.cells #[.int .i64 0, .int .i64 0] 46)).setRow w6.heap.size (cellsO o q).toArray).setRow (w6.heap.size + 1) #[.int .i64 0, .int .i64 0]) (w6.heap.size + 1) (.int .i64 0) (.int .i64 0)) := setRow_heap _ _ _ _ _ _ E3.out
       have hb : Below w6.heap.size w6 ((((w6.alloc (.cells #[.int .i64 0, .string ⟨#[]⟩, .string ⟨#[]⟩, .string ⟨#[]⟩, .string ⟨#[]⟩, .string ⟨#[]⟩, .slice none 0 0] 39)).alloc (.cells #[.int .i64 0, .int .i64 0] 46)).setRow w6.heap.size (cellsO o q).toArray).setRow (w6.heap.size + 1) #[.int .i64 0, .int .i64 0]) := below_setRow (below_setRowO A2.out (Nat.le_refl _) _) (by omega) _
       replace BO := qh9 (BO.out.keep hb)
       replace BC := qh9 (BC.out.keep hb)
       replace HP := qh9 (HP.out.below hb)
       replace HB := qc9 HB hb
       have HQ2 := qh9 (HQ.out.below hb)
       clear hb A2
       go_upto_region 16 with (first | ((with_reducible refine storeB (w1 := w6) (g := w6.heap.size) (b := o) (p := q) (.tmp 12) (.tmp 68) ?_ ?_ ?_ ?_ HQ.out B2.out ?_); rfl; rfl; rfl; rfl) | ((with_reducible refine EB.store (.tmp 13) (.tmp 69) ?_ ?_ (w6.heap.size + 1) 0 0 (.int .i64 0) (.int .i64 0) ?_ ?_ E3.out ?_); rfl; rfl; rfl; rfl))
       clear B2 E2 E3 HQ
       generalize (((w6.alloc (.cells #[.int .i64 0, .string ⟨#[]⟩, .string ⟨#[]⟩, .string ⟨#[]⟩, .string ⟨#[]⟩, .string ⟨#[]⟩, .slice none 0 0] 39)).alloc (.cells #[.int .i64 0, .int .i64 0] 46)).setRow w6.heap.size (cellsO o q).toArray).setRow (w6.heap.size + 1) #[.int .i64 0, .int .i64 0] = X2 at B4 E4 HQ2 BO BC HP HB ⊢

       go_wp2_with fail
       with_reducible refine (T1.out _).mono ?_
       rintro e w7 ⟨hb, At, ct, rfl⟩
       replace BO := qh9 (BO.out.keep hb)
       replace BC := qh9 (BC.out.keep hb)
       replace HP := qh9 (HP.out.below hb)
       replace HB := qc9 HB hb
       replace B4 := qh9 (B4.out.keep hb)
       replace E4 := qh9 (E4.out.keep hb)
       replace HQ2 := qh9 (HQ2.out.below hb)
       clear hb T1
       have hb := below_al w7 (.cells #[.int .i64 0, .int .i64 0] 46)
       replace BC := qh9 (BC.out.keep hb)
       replace HP := qh9 (HP.out.below hb)
       replace HB := qc9 HB hb
       replace B4 := qh9 (B4.out.keep hb)
       replace E4 := qh9 (E4.out.keep hb)
       replace HQ2 := qh9 (HQ2.out.below hb)
       clear hb BO
       go_upto_region 17 with fail
       generalize w7.alloc (.cells #[.int .i64 0, .int .i64 0] 46) = X3 at BC HP HB B4 E4 HQ2 ⊢
       go_wp2_with fail
       with_reducible refine (T2.out _).mono ?_
       rintro e w8 ⟨hb, Au, cu, rfl⟩
       replace BC := qh9 (BC.out.keep hb)
       replace HP := qh9 (HP.out.below hb)
       replace HB := qc9 HB hb
       replace B4 := qh9 (B4.out.keep hb)
       replace E4 := qh9 (E4.out.keep hb)
       replace HQ2 := qh9 (HQ2.out.below hb)
       clear hb T2
       have hb := below_al w8 (.cells #[.int .i64 0, .int .i64 0] 46)
       replace BC := qh9 (BC.out.keep hb)
       replace HP := qh9 (HP.out.below hb)
       replace HB := qc9 HB hb
       replace B4 := qh9 (B4.out.keep hb)
       replace E4 := qh9 (E4.out.keep hb)
       replace HQ2 := qh9 (HQ2.out.below hb)
       clear hb
       go_upto_region 18 with fail
       generalize w8.alloc (.cells #[.int .i64 0, .int .i64 0] 46) = X4 at BC HP HB B4 E4 HQ2 ⊢
       have ec := E4.out.c0
       have KE : Hid (Calls Tryz.prog 23 #[vO o q, vO o p] X4 (RetB X4 true)) := by
        have := equalO o o q p X4 (Has X4) (In.has X4) HQ2.out HP.out
        rwa [decide_eq_true rfl] at this
       go_wp2_with (first | ((with_reducible refine loadG (.tmp 12) ?_ ?_ ?_ B4.out ?_); rfl; rfl; rfl) | ((with_reducible refine loadG (.tmp 5) ?_ ?_ ?_ BC.out ?_); rfl; rfl; rfl))
       with_reducible refine KE.out.mono ?_
       rintro e w9 ⟨rfl, hb⟩
       have HF := qc9 HB hb
       go_wp2
       go_ret
       exact ⟨rfl, HF.out⟩
  · have hv1 : (Vc == 0) = false := by rw [beq_eq_false_iff_ne]; exact hv0
    go_wp2
    go_ret
    exact ⟨rfl, HB.out⟩
/-- LinesTrip, whatever the input. -/
theorem linesTrip_walk (r : Rw) (r0 r1 r2 r3 : Value) (n : Int) (w : World) (hr : RawAt w (Has w) r [r0, r1, r2, r3]) (hn : I64 n) (hT : EscT w) (ht : Tab w) :
 Calls Tryz.prog 7 #[.agg #[r0, r1, r2, r3], .int .i64 n] w (RetB w true) :=
 linesTripW r r0 r1 r2 r3 n w hr hT ht hn.1 hn.2
end Go.Proofs.YtlmnjelideegnaaGreatDoor
