/- The program compares two terms. -/
import Derived.Test.YtlocnkobancjmaaGreatDoorE19
import Derived.Test.YtlocnkobancjmaaGreatDoorE21
import Derived.Test.YtlocnkobancjmaaGreatDoorE17
import Derived.Deep.Upon
namespace Go.Proofs.YtlocnkobancjmaaGreatDoor
open Go Go.RowKit
set_option linter.unusedVariables false
set_option maxHeartbeats 32000000
set_option maxRecDepth 100000
mutual
def Tm.bd (d : Nat) : Tm → Prop
 | .var _ => True
 | .con o => o.bd d
 | .app _ l => Tm.bdL d l
def Tm.bdL (d : Nat) : List Tm → Prop
 | [] => True
 | t :: l => t.bd d ∧ Tm.bdL d l
end
theorem Tm.bdL_mem {d : Nat} : ∀ {l : List Tm} {t : Tm}, Tm.bdL d l → t ∈ l → t.bd d
 | x :: l, t, h, hm => by
  unfold Tm.bdL at h
  rcases List.mem_cons.1 hm with e | hm
  · rw [e]; exact h.1
  · exact Tm.bdL_mem h.2 hm
theorem Tm.bd_args {d : Nat} {t : Tm} (h : t.bd d) : Tm.bdL d t.args := by
 cases t with
 | var s => unfold Tm.args Tm.bdL; trivial
 | con o => unfold Tm.args Tm.bdL; trivial
 | app s l => unfold Tm.bd at h; exact h
def valE (t t' : Tm) : Bool := match t, t' with
 | .con o, .con o' => decide (o = o')
 | _, _ => true
def sameT (t t' : Tm) : Bool := t.kd == t'.kd && (t.nm.1.toList == t'.nm.1.toList && t.nm.2.toList == t'.nm.2.toList) && (t.args.length == t'.args.length) && valE t t'
theorem eqTs_len : ∀ (l l' : List Tm), eqTs l l' = true → l.length = l'.length
 | [], [], _ => rfl
 | t :: l, t' :: l', h => by
  unfold eqTs at h
  rw [Bool.and_eq_true] at h
  simp [eqTs_len l l' h.2]
 | [], _ :: _, h => by unfold eqTs at h; cases h
 | _ :: _, [], h => by unfold eqTs at h; cases h
theorem eqTs_nil : eqTs [] [] = true := by unfold eqTs; rfl
theorem eqT_same (t t' : Tm) : eqT t t' = (sameT t t' && eqTs t.args t'.args) := by
 cases t with
 | var s =>
  cases t' with
  | var s' => simp [eqT, sameT, Tm.kd, Tm.nm, Tm.args, valE, eqN, eqTs_nil]
  | con o => simp [eqT, sameT, Tm.kd]
  | app s l => simp [eqT, sameT, Tm.kd]
 | con o =>
  cases t' with
  | var s' => simp [eqT, sameT, Tm.kd]
  | con o' => simp [eqT, sameT, Tm.kd, Tm.nm, Tm.args, valE, eqTs_nil]
  | app s l => simp [eqT, sameT, Tm.kd]
 | app s l =>
  cases t' with
  | var s' => simp [eqT, sameT, Tm.kd]
  | con o => simp [eqT, sameT, Tm.kd]
  | app s' l' =>
   have hl := eqTs_len l l'
   simp only [eqT, sameT, Tm.kd, Tm.nm, Tm.args, valE, eqN, Bool.and_true, beq_self_eq_true, Bool.true_and]
   cases h : eqTs l l' with
   | false => simp
   | true => simp [hl h]
theorem sameT_len {t t' : Tm} (h : sameT t t' = true) : t.args.length = t'.args.length := by
 unfold sameT at h
 simp only [Bool.and_eq_true, beq_iff_eq] at h
 exact h.1.2
theorem eqTs_drop {l l' : List Tm} {i : Nat} (hi : i < l.length) (hi' : i < l'.length) : eqTs (l.drop i) (l'.drop i) = (eqT l[i] l'[i] && eqTs (l.drop (i + 1)) (l'.drop (i + 1))) := by
 rw [List.drop_eq_getElem_cons hi, List.drop_eq_getElem_cons hi']; conv => lhs; unfold eqTs
theorem valP (d : Nat) (hd : d ≤ 1000) (t t' : Tm) (x0 x1 x2 x3 x4 x5 x6 y0 y1 y2 y3 y4 y5 y6 : Value) (w : World) (S : Nat → Prop) (hS : In S w) (hx : ValAt w S t [x0, x1, x2, x3, x4, x5, x6]) (hy : ValAt w S t' [y0, y1, y2, y3, y4, y5, y6]) (hb : t.bd d) (hb' : t'.bd d) (hn : t.nodes ≤ 3000) (hk : t.kd = t'.kd) :
 ∀ W, Below w.heap.size w W → Calls Tryz.prog 105 #[.agg #[x0, x1, x2, x3, x4, x5, x6], .agg #[y0, y1, y2, y3, y4, y5, y6]] W (RetB W (valE t t')) := by
 intro W hw
 have Z : ∀ (a0 a1 a2 a3 a4 a5 a6 : Value), [a0, a1, a2, a3, a4, a5, a6] = zO → (Value.agg #[a0, a1, a2, a3, a4, a5, a6]) = .agg #[.int .i64 0, .string ⟨#[]⟩, .string ⟨#[]⟩, .string ⟨#[]⟩, .string ⟨#[]⟩, .string ⟨#[]⟩, .slice none 0 0] := by
  intro a0 a1 a2 a3 a4 a5 a6 h
  unfold zO at h
  simp only [List.cons.injEq, and_true] at h
  obtain ⟨rfl, rfl, rfl, rfl, rfl, rfl, rfl⟩ := h
  rfl
 cases t with
 | var s =>
  cases t' with
  | var s' => rw [Z _ _ _ _ _ _ _ hx, Z _ _ _ _ _ _ _ hy]; exact equalPZ W
  | con o => exact absurd hk (by simp [Tm.kd])
  | app s l => exact absurd hk (by simp [Tm.kd])
 | con o =>
  cases t' with
  | var s' => exact absurd hk (by simp [Tm.kd])
  | con o' =>
   obtain ⟨p, e1, hp⟩ := hx
   obtain ⟨p', e2, hp'⟩ := hy
   have h := equalP d hd o o' p p' W S (hS.later hw.size) (hp.below hS hw) (hp'.below hS hw) hb hb' (by have e : (Tm.con o).nodes = o.nodes := (by unfold Tm.nodes; rfl); omega)
   unfold vO at h
   rw [← e1, ← e2] at h
   exact h
  | app s l => exact absurd hk (by simp [Tm.kd])
 | app s l =>
  cases t' with
  | var s' => exact absurd hk (by simp [Tm.kd])
  | con o => exact absurd hk (by simp [Tm.kd])
  | app s' l' => rw [Z _ _ _ _ _ _ _ hx, Z _ _ _ _ _ _ _ hy]; exact equalPZ W
theorem agreeStep (d : Nat) (hd : d ≤ 1000) (t t' : Tm) (b k b' k' : Nat) (cs cs' : List Value) (w : World) (S : Nat → Prop) (g s : Nat) (hP : TmP w S t b k cs) (hP' : TmP w S t' b' k' cs') (hbd : t.bd d) (hbd' : t'.bd d) (hS : In S w) (hg : ¬ S g) (hc : CtAt w g s) (hn : s + t.nodes ≤ 3000)
 (ih : ∀ x ∈ t.args, ∀ (t' : Tm) (b k b' k' : Nat) (cs cs' : List Value) (W : World) (s' : Nat), TmP W S x b k cs → TmP W S t' b' k' cs' → x.bd d → t'.bd d → In S W → CtAt W g s' → s' + x.nodes ≤ 3000 →
   Calls Tryz.prog 139 #[.pointer (some ⟨g, 0, none⟩), .pointer (some ⟨b, k, none⟩), .pointer (some ⟨b', k', none⟩)] W (fun e w' => e = .returned (.bool (eqT x t')) ∧ RunT W w' g s' (s' + x.nodes))) :
 Calls Tryz.prog 139 #[.pointer (some ⟨g, 0, none⟩), .pointer (some ⟨b, k, none⟩), .pointer (some ⟨b', k', none⟩)] w (fun e w' => e = .returned (.bool (eqT t t')) ∧ RunT w w' g s (s + t.nodes)) := by
 obtain ⟨x0, x1, x2, x3, x4, x5, x6, A, c, _, hv, ha, l0, l1, l2, l3, l4, l5, l6, l7, l8, l9, l10⟩ := hP.cells
 obtain ⟨y0, y1, y2, y3, y4, y5, y6, A', c', _, hv', ha', m0, m1, m2, m3, m4, m5, m6, m7, m8, m9, m10⟩ := hP'.cells
 have C1 := hI (sameTRaw b k b' k' w t.kd t'.kd t.nm.1 t.nm.2 t'.nm.1 t'.nm.2 x0 x1 x2 x3 x4 x5 x6 y0 y1 y2 y3 y4 y5 y6 A A' t.args.length t'.args.length c c' (valE t t') l0 l1 l2 l3 l4 l5 l6 l7 l8 l9 l10 m0 m1 m2 m3 m4 m5 m6 m7 m8 m9 m10
  (fun hk => valP d hd t t' x0 x1 x2 x3 x4 x5 x6 y0 y1 y2 y3 y4 y5 y6 w S hS hv hv' hbd hbd' (by omega) hk))
 have hna := t.nodes_args
 have HLB : Hid (b < w.heap.size) := hS b hP.1.1
 have HMB : Hid (b' < w.heap.size) := hS b' hP'.1.1
 have SB : Hid (S b ∧ S b') := ⟨hP.1.1, hP'.1.1⟩
 have L10w := hI l10
 have M10w := hI m10
 rw [eqT_same]
 have hsl := sameT_len (t := t) (t' := t')
 have bda := hI (Tm.bd_args hbd)
 have bda' := hI (Tm.bd_args hbd')
 change Hid (Calls _ _ _ _ (RetB w (sameT t t'))) at C1
 generalize sameT t t' = sm at C1 hsl ⊢
 clear l0 l1 l2 l3 l4 l5 l6 l7 l8 l9 l10 m0 m1 m2 m3 m4 m5 m6 m7 m8 m9 m10 hv hv' hP hP' hbd hbd'
 have HC := hI hc
 clear hc
 generalize t.args = l at *
 generalize t'.args = l' at *
 generalize t.nodes = m at *
 cases sm with
 | false =>
  go_enter Tryz.func139, Tryz.ntmps139
  go_wp2_with fail
  refine C1.out.mono ?_
  rintro e w1 ⟨rfl, hb1⟩
  have R1 := hI ((RunT.start HC.out).below hb1)
  clear hb1 C1
  go_wp2
  go_ret
  exact ⟨by rfl, R1.out.more (by omega)⟩
 | true =>
  have hlen : l.length = l'.length := hsl rfl
  have hr : Hid ((true && eqTs l l') = eqTs l l') := rfl
  rw [hr.out]
  clear hr hsl
  have hcl := ha.1
  have hcl' := ha'.1
  have hLn := Tm.nodesL_len l
  have PC1 : ∀ W, Below w.heap.size w W → Calls Tryz.prog 135 #[.slice A l.length c] W (fun e w' => e = .returned (.agg (plV A l.length)) ∧ Below W.heap.size W w') := fun W hb => placeT l A c W S (ha.below hS hb)
  have PC2 : ∀ W, Below w.heap.size w W → Calls Tryz.prog 135 #[.slice A' l'.length c'] W (fun e w' => e = .returned (.agg (plV A' l'.length)) ∧ Below W.heap.size W w') := fun W hb => placeT l' A' c' W S (ha'.below hS hb)
  -- what isSettled answers
  have HSET : ∃ q : Bool, (q = true → eqTs l l' = true) ∧ ∀ W, RunT w W g s s → Calls Tryz.prog 188 #[.pointer (some ⟨g, 0, none⟩), .agg (plV A l.length), .agg (plV A' l'.length)] W (fun e w' => e = .returned (.bool q) ∧ RunT w w' g s (s + 1)) := by
   by_cases h0 : l.length = 0
   · have e1 : l = [] := List.length_eq_zero_iff.1 h0
     have e2 : l' = [] := List.length_eq_zero_iff.1 (by omega)
     subst e1 e2
     refine ⟨true, fun _ => eqTs_nil, fun W hr => ?_⟩
     refine (setT1 g _ _ _ rfl rfl W (fun W _ => eqPl_zero W)).mono ?_
     rintro e w' ⟨rfl, hb⟩
     exact ⟨rfl, (hr.below hb).more (by omega)⟩
   · obtain ⟨b1, o1, rfl, hb1, hr1⟩ := ha.2 (by omega)
     obtain ⟨b2, o2, rfl, hb2, hr2⟩ := ha'.2 (by omega)
     have e1 : plV (some ⟨b1, o1, none⟩) l.length = #[.pointer (some ⟨b1, o1, none⟩), .int .i64 l.length] := by unfold plV; rw [if_neg h0]
     have e2 : plV (some ⟨b2, o2, none⟩) l'.length = #[.pointer (some ⟨b2, o2, none⟩), .int .i64 l.length] := by unfold plV; rw [if_neg (by omega), hlen]
     rw [e1, e2]
     by_cases hbo : b1 = b2 ∧ o1 = o2
     · obtain ⟨rfl, rfl⟩ := hbo
       refine ⟨true, fun _ => ?_, fun W hr => ?_⟩
       · rw [TmsAt.inj b1 o1 l l' hlen hr1 hr2]; exact eqTs_refl _
       · refine (setT1 g _ _ _ rfl rfl W (fun W _ => eqPl_same W ⟨b1, o1, none⟩)).mono ?_
         rintro e w' ⟨rfl, hb⟩
         exact ⟨rfl, (hr.below hb).more (by omega)⟩
     · refine ⟨false, (fun h => by cases h), fun W hr => ?_⟩
       exact setT0 g _ _ _ rfl rfl w W s s (fun W' hw => by
        have k1 : Plain W' b1 := hb1.2.keep ((hw.block b1 (Nat.lt_of_lt_of_le (hS b1 hb1.1) hr.1.size)).trans (hr.1.block b1 (hS b1 hb1.1) (fun e => hg (by injection e with e; exact e ▸ hb1.1))))
        have k2 : Plain W' b2 := hb2.2.keep ((hw.block b2 (Nat.lt_of_lt_of_le (hS b2 hb2.1) hr.1.size)).trans (hr.1.block b2 (hS b2 hb2.1) (fun e => hg (by injection e with e; exact e ▸ hb2.1))))
        exact eqPl_other W' k1 k2 hbo) hr (by omega)
  obtain ⟨q, hq, hset⟩ := HSET
  have hpl : ∃ p0 p1, plV A l.length = #[p0, p1] := by unfold plV; split <;> exact ⟨_, _, rfl⟩
  have hpl' : ∃ q0 q1, plV A' l'.length = #[q0, q1] := by unfold plV; split <;> exact ⟨_, _, rfl⟩
  obtain ⟨p0, p1, ep⟩ := hpl
  obtain ⟨q0, q1, eq⟩ := hpl'
  rw [ep] at PC1 hset
  rw [eq] at PC2 hset
  obtain ⟨L, hL⟩ : ∃ L, l.length = L := ⟨_, rfl⟩
  have hL' : l'.length = L := by omega
  rw [hL] at PC1 L10w hcl
  rw [hL'] at PC2 M10w hcl'
  replace PC1 := hI PC1
  replace PC2 := hI PC2
  replace hset := hI hset
  have HL := hI hL
  have HL' := hI hL'
  have HA := hI ha
  have HA' := hI ha'
  have IH := hI ih
  have HS := hI hS
  have HG := hI hg
  have hL3 : L ≤ 3000 := by omega
  have hm1 : s + 1 + Tm.nodesL l ≤ s + m := by omega
  have hm3 : s + m ≤ 3000 := hn
  obtain ⟨M, hM⟩ : ∃ M, s + m = M := ⟨_, rfl⟩
  rw [hM] at hm1 hm3 ⊢
  obtain ⟨r, hr⟩ : ∃ r, eqTs l l' = r := ⟨_, rfl⟩
  rw [hr]
  rw [hr] at hq
  have HR := hI hr
  have HW1 : Hid (∀ W, Below w.heap.size w W → RunT w W g s s) := fun W hb => (RunT.start HC.out).below hb
  clear ha ha' ih hS hg hL hL' hlen ep eq hLn hn hna hM hr
  cases q with
  | true =>
   have er : r = true := hq rfl
   subst er
   clear hq
   go_enter Tryz.func139, Tryz.ntmps139
   go_wp2_with fail
   refine C1.out.mono ?_
   rintro e w1 ⟨rfl, hb1⟩
   have R1 := hI ((RunT.start HC.out).below hb1)
   have L10 := hI ((hb1.cell (p := ⟨b, k + 10, none⟩) HLB.out).trans L10w.out)
   have M10 := hI ((hb1.cell (p := ⟨b', k' + 10, none⟩) HMB.out).trans M10w.out)
   replace HLB := hI (Nat.lt_of_lt_of_le HLB.out hb1.size)
   replace HMB := hI (Nat.lt_of_lt_of_le HMB.out hb1.size)
   have HB1 := hI hb1
   clear hb1 C1
   go_wp2_with fail
   refine wp_region_grow (l := _) 11 (by kernel_rfl) (by kernel_rfl) (fun i => [12, 13, 14, 15, 16, 17, 18, 19, 20, 21, 22].getD i 0) (LR [LV (.pointer (some ⟨g, 0, none⟩)), LV (.pointer (some ⟨b, k, none⟩)), LV (.pointer (some ⟨b, k, none⟩)), LV (.pointer (some ⟨b, k + 10, none⟩)), LV (.slice A L c), LV (.agg #[p0, p1]), LV (.pointer (some ⟨b', k', none⟩)), LV (.pointer (some ⟨b', k', none⟩)), LV (.pointer (some ⟨b', k' + 10, none⟩)), LV (.slice A' L c'), LV (.agg #[q0, q1])]) (LR_mono ⟨mLV _, mLV _, mLV _, mLV _, mLV _, mLV _, mLV _, mLV _, mLV _, mLV _, mLV _, trivial⟩) (by
    intro i j hi hj h
    exact inj_getD [12, 13, 14, 15, 16, 17, 18, 19, 20, 21, 22] (by decide) i j hi hj h) (by
    intro i hi
    exact lt_getD 48 [12, 13, 14, 15, 16, 17, 18, 19, 20, 21, 22] (by decide) i hi) ?step ?done
   case step =>
    intro ii hii a w9 v lo hi' hoth hb hw
    have sl0 : a.tmps[0]? = some (.pointer (some ⟨g, 0, none⟩)) := (hoth 0 (fun j hj => ne_getD 0 _ (by decide) j hj)).trans rfl
    have sl1 : a.tmps[1]? = some (.pointer (some ⟨b, k, none⟩)) := (hoth 1 (fun j hj => ne_getD 1 _ (by decide) j hj)).trans rfl
    have sl2 : a.tmps[2]? = some (.pointer (some ⟨b', k', none⟩)) := (hoth 2 (fun j hj => ne_getD 2 _ (by decide) j hj)).trans rfl
    match ii, hii with
    | 0, _ =>
     exact gw_move rfl (wanted_plain rfl) 0 _ rfl sl0 ⟨_, rfl, Below.refl _ _, rfl⟩
    | 1, _ =>
     exact gw_move rfl (wanted_plain rfl) 1 _ rfl sl1 ⟨_, rfl, Below.refl _ _, rfl⟩
    | 2, _ =>
     obtain ⟨s0, r0, _⟩ := hw 1 (by omega) (by kernel_rfl)
     have e0 : v 1 = .pointer (some ⟨b, k, none⟩) := r0
     rw [e0] at s0
     replace s0 : a.tmps[13]? = some (.pointer (some ⟨b, k, none⟩)) := s0
     refine wpOp_step rfl fun K' hK' => ?_
     rw [if_pos (wanted_plain rfl)]
     unfold Oper.wp
     simp only [execOp]
     go_simp
     exact hK' _ _ ⟨_, rfl, Below.refl _ _, rfl⟩
    | 3, _ =>
     obtain ⟨s0, r0, _⟩ := hw 2 (by omega) (by kernel_rfl)
     have e0 : v 2 = .pointer (some ⟨b, k, none⟩) := r0
     rw [e0] at s0
     replace s0 : a.tmps[14]? = some (.pointer (some ⟨b, k, none⟩)) := s0
     refine wpOp_step rfl fun K' hK' => ?_
     rw [if_pos (wanted_plain rfl)]
     unfold Oper.wp
     simp only [execOp]
     go_simp
     exact hK' _ _ ⟨_, rfl, Below.refl _ _, rfl⟩
    | 4, _ =>
     obtain ⟨s0, r0, _⟩ := hw 3 (by omega) (by kernel_rfl)
     have e0 : v 3 = .pointer (some ⟨b, k + 10, none⟩) := r0
     rw [e0] at s0
     replace s0 : a.tmps[15]? = some (.pointer (some ⟨b, k + 10, none⟩)) := s0
     have cc := (hb.cell (p := ⟨b, k + 10, none⟩) HLB.out).trans L10.out
     refine wpOp_step rfl fun K' hK' => ?_
     rw [if_pos (wanted_plain rfl)]
     unfold Oper.wp
     simp only [execOp]
     go_simp
     exact hK' _ _ ⟨_, rfl, Below.refl _ _, rfl⟩
    | 5, _ =>
     obtain ⟨s0, r0, _⟩ := hw 4 (by omega) (by kernel_rfl)
     have e0 : v 4 = .slice A L c := r0
     rw [e0] at s0
     replace s0 : a.tmps[16]? = some (.slice A L c) := s0
     refine gw_t rfl (wanted_plain rfl) 135 16 _ _ rfl (fun v w => by go_simp) s0 ?_
     with_reducible refine (PC1.out w9 (chain2 HB1.out hb (Nat.le_refl _))).mono ?_
     rintro e w3 ⟨rfl, hb3⟩
     exact ⟨_, rfl, _, rfl, hb3, rfl⟩
    | 6, _ =>
     exact gw_move rfl (wanted_plain rfl) 2 _ rfl sl2 ⟨_, rfl, Below.refl _ _, rfl⟩
    | 7, _ =>
     obtain ⟨s0, r0, _⟩ := hw 6 (by omega) (by kernel_rfl)
     have e0 : v 6 = .pointer (some ⟨b', k', none⟩) := r0
     rw [e0] at s0
     replace s0 : a.tmps[18]? = some (.pointer (some ⟨b', k', none⟩)) := s0
     refine wpOp_step rfl fun K' hK' => ?_
     rw [if_pos (wanted_plain rfl)]
     unfold Oper.wp
     simp only [execOp]
     go_simp
     exact hK' _ _ ⟨_, rfl, Below.refl _ _, rfl⟩
    | 8, _ =>
     obtain ⟨s0, r0, _⟩ := hw 7 (by omega) (by kernel_rfl)
     have e0 : v 7 = .pointer (some ⟨b', k', none⟩) := r0
     rw [e0] at s0
     replace s0 : a.tmps[19]? = some (.pointer (some ⟨b', k', none⟩)) := s0
     refine wpOp_step rfl fun K' hK' => ?_
     rw [if_pos (wanted_plain rfl)]
     unfold Oper.wp
     simp only [execOp]
     go_simp
     exact hK' _ _ ⟨_, rfl, Below.refl _ _, rfl⟩
    | 9, _ =>
     obtain ⟨s0, r0, _⟩ := hw 8 (by omega) (by kernel_rfl)
     have e0 : v 8 = .pointer (some ⟨b', k' + 10, none⟩) := r0
     rw [e0] at s0
     replace s0 : a.tmps[20]? = some (.pointer (some ⟨b', k' + 10, none⟩)) := s0
     have cc := (hb.cell (p := ⟨b', k' + 10, none⟩) HMB.out).trans M10.out
     refine wpOp_step rfl fun K' hK' => ?_
     rw [if_pos (wanted_plain rfl)]
     unfold Oper.wp
     simp only [execOp]
     go_simp
     exact hK' _ _ ⟨_, rfl, Below.refl _ _, rfl⟩
    | 10, _ =>
     obtain ⟨s0, r0, _⟩ := hw 9 (by omega) (by kernel_rfl)
     have e0 : v 9 = .slice A' L c' := r0
     rw [e0] at s0
     replace s0 : a.tmps[21]? = some (.slice A' L c') := s0
     refine gw_t rfl (wanted_plain rfl) 135 21 _ _ rfl (fun v w => by go_simp) s0 ?_
     with_reducible refine (PC2.out w9 (chain2 HB1.out hb (Nat.le_refl _))).mono ?_
     rintro e w3 ⟨rfl, hb3⟩
     exact ⟨_, rfl, _, rfl, hb3, rfl⟩
   case done =>
    intro a w9 v lo hi' hdef hsz hoth hb hj hap
    obtain ⟨_, hv0, _, _⟩ := hj 0 (by omega)
    obtain ⟨_, hv5, _, _⟩ := hj 5 (by omega)
    obtain ⟨_, hv10, _, _⟩ := hj 10 (by omega)
    have ha := eq_puts hdef hsz hoth (fun i hi => (hj i hi).1)
    subst ha
    clear hj hoth hdef hsz hap
    change v 0 = _ at hv0
    change v 5 = _ at hv5
    change v 10 = _ at hv10
    simp only [puts, List.getD_cons_zero, List.getD_cons_succ, hv0, hv5, hv10]
    generalize v 1 = v1
    generalize v 2 = v2
    generalize v 3 = v3
    generalize v 4 = v4
    generalize v 6 = v6
    generalize v 7 = v7
    generalize v 8 = v8
    generalize v 9 = v9
    clear hv0 hv5 hv10
    simp only [Act.put, List.setIfInBounds_toArray, List.set_cons_zero, List.set_cons_succ]
    show wpList _ _ _ [_] _ _
    replace R1 := hI (R1.out.below hb)
    clear hb PC1 PC2 L10 M10
    go_wp2_with fail
    refine (hset.out _ R1.out).mono ?_
    rintro e w2 ⟨rfl, R2⟩
    have R2 := hI R2
    go_wp2
    go_ret
    exact ⟨rfl, R2.out.more (by omega)⟩
  | false =>
   clear hq
   go_enter Tryz.func139, Tryz.ntmps139
   go_wp2_with fail
   refine C1.out.mono ?_
   rintro e w1 ⟨rfl, hb1⟩
   have R1 := hI ((RunT.start HC.out).below hb1)
   have L10 := hI ((hb1.cell (p := ⟨b, k + 10, none⟩) HLB.out).trans L10w.out)
   have M10 := hI ((hb1.cell (p := ⟨b', k' + 10, none⟩) HMB.out).trans M10w.out)
   replace HLB := hI (Nat.lt_of_lt_of_le HLB.out hb1.size)
   replace HMB := hI (Nat.lt_of_lt_of_le HMB.out hb1.size)
   have HB1 := hI hb1
   clear hb1 C1
   go_wp2_with fail
   refine wp_region_grow (l := _) 11 (by kernel_rfl) (by kernel_rfl) (fun i => [12, 13, 14, 15, 16, 17, 18, 19, 20, 21, 22].getD i 0) (LR [LV (.pointer (some ⟨g, 0, none⟩)), LV (.pointer (some ⟨b, k, none⟩)), LV (.pointer (some ⟨b, k, none⟩)), LV (.pointer (some ⟨b, k + 10, none⟩)), LV (.slice A L c), LV (.agg #[p0, p1]), LV (.pointer (some ⟨b', k', none⟩)), LV (.pointer (some ⟨b', k', none⟩)), LV (.pointer (some ⟨b', k' + 10, none⟩)), LV (.slice A' L c'), LV (.agg #[q0, q1])]) (LR_mono ⟨mLV _, mLV _, mLV _, mLV _, mLV _, mLV _, mLV _, mLV _, mLV _, mLV _, mLV _, trivial⟩) (by
    intro i j hi hj h
    exact inj_getD [12, 13, 14, 15, 16, 17, 18, 19, 20, 21, 22] (by decide) i j hi hj h) (by
    intro i hi
    exact lt_getD 48 [12, 13, 14, 15, 16, 17, 18, 19, 20, 21, 22] (by decide) i hi) ?step ?done
   case step =>
    intro ii hii a w9 v lo hi' hoth hb hw
    have sl0 : a.tmps[0]? = some (.pointer (some ⟨g, 0, none⟩)) := (hoth 0 (fun j hj => ne_getD 0 _ (by decide) j hj)).trans rfl
    have sl1 : a.tmps[1]? = some (.pointer (some ⟨b, k, none⟩)) := (hoth 1 (fun j hj => ne_getD 1 _ (by decide) j hj)).trans rfl
    have sl2 : a.tmps[2]? = some (.pointer (some ⟨b', k', none⟩)) := (hoth 2 (fun j hj => ne_getD 2 _ (by decide) j hj)).trans rfl
    match ii, hii with
    | 0, _ =>
     exact gw_move rfl (wanted_plain rfl) 0 _ rfl sl0 ⟨_, rfl, Below.refl _ _, rfl⟩
    | 1, _ =>
     exact gw_move rfl (wanted_plain rfl) 1 _ rfl sl1 ⟨_, rfl, Below.refl _ _, rfl⟩
    | 2, _ =>
     obtain ⟨s0, r0, _⟩ := hw 1 (by omega) (by kernel_rfl)
     have e0 : v 1 = .pointer (some ⟨b, k, none⟩) := r0
     rw [e0] at s0
     replace s0 : a.tmps[13]? = some (.pointer (some ⟨b, k, none⟩)) := s0
     refine wpOp_step rfl fun K' hK' => ?_
     rw [if_pos (wanted_plain rfl)]
     unfold Oper.wp
     simp only [execOp]
     go_simp
     exact hK' _ _ ⟨_, rfl, Below.refl _ _, rfl⟩
    | 3, _ =>
     obtain ⟨s0, r0, _⟩ := hw 2 (by omega) (by kernel_rfl)
     have e0 : v 2 = .pointer (some ⟨b, k, none⟩) := r0
     rw [e0] at s0
     replace s0 : a.tmps[14]? = some (.pointer (some ⟨b, k, none⟩)) := s0
     refine wpOp_step rfl fun K' hK' => ?_
     rw [if_pos (wanted_plain rfl)]
     unfold Oper.wp
     simp only [execOp]
     go_simp
     exact hK' _ _ ⟨_, rfl, Below.refl _ _, rfl⟩
    | 4, _ =>
     obtain ⟨s0, r0, _⟩ := hw 3 (by omega) (by kernel_rfl)
     have e0 : v 3 = .pointer (some ⟨b, k + 10, none⟩) := r0
     rw [e0] at s0
     replace s0 : a.tmps[15]? = some (.pointer (some ⟨b, k + 10, none⟩)) := s0
     have cc := (hb.cell (p := ⟨b, k + 10, none⟩) HLB.out).trans L10.out
     refine wpOp_step rfl fun K' hK' => ?_
     rw [if_pos (wanted_plain rfl)]
     unfold Oper.wp
     simp only [execOp]
     go_simp
     exact hK' _ _ ⟨_, rfl, Below.refl _ _, rfl⟩
    | 5, _ =>
     obtain ⟨s0, r0, _⟩ := hw 4 (by omega) (by kernel_rfl)
     have e0 : v 4 = .slice A L c := r0
     rw [e0] at s0
     replace s0 : a.tmps[16]? = some (.slice A L c) := s0
     refine gw_t rfl (wanted_plain rfl) 135 16 _ _ rfl (fun v w => by go_simp) s0 ?_
     with_reducible refine (PC1.out w9 (chain2 HB1.out hb (Nat.le_refl _))).mono ?_
     rintro e w3 ⟨rfl, hb3⟩
     exact ⟨_, rfl, _, rfl, hb3, rfl⟩
    | 6, _ =>
     exact gw_move rfl (wanted_plain rfl) 2 _ rfl sl2 ⟨_, rfl, Below.refl _ _, rfl⟩
    | 7, _ =>
     obtain ⟨s0, r0, _⟩ := hw 6 (by omega) (by kernel_rfl)
     have e0 : v 6 = .pointer (some ⟨b', k', none⟩) := r0
     rw [e0] at s0
     replace s0 : a.tmps[18]? = some (.pointer (some ⟨b', k', none⟩)) := s0
     refine wpOp_step rfl fun K' hK' => ?_
     rw [if_pos (wanted_plain rfl)]
     unfold Oper.wp
     simp only [execOp]
     go_simp
     exact hK' _ _ ⟨_, rfl, Below.refl _ _, rfl⟩
    | 8, _ =>
     obtain ⟨s0, r0, _⟩ := hw 7 (by omega) (by kernel_rfl)
     have e0 : v 7 = .pointer (some ⟨b', k', none⟩) := r0
     rw [e0] at s0
     replace s0 : a.tmps[19]? = some (.pointer (some ⟨b', k', none⟩)) := s0
     refine wpOp_step rfl fun K' hK' => ?_
     rw [if_pos (wanted_plain rfl)]
     unfold Oper.wp
     simp only [execOp]
     go_simp
     exact hK' _ _ ⟨_, rfl, Below.refl _ _, rfl⟩
    | 9, _ =>
     obtain ⟨s0, r0, _⟩ := hw 8 (by omega) (by kernel_rfl)
     have e0 : v 8 = .pointer (some ⟨b', k' + 10, none⟩) := r0
     rw [e0] at s0
     replace s0 : a.tmps[20]? = some (.pointer (some ⟨b', k' + 10, none⟩)) := s0
     have cc := (hb.cell (p := ⟨b', k' + 10, none⟩) HMB.out).trans M10.out
     refine wpOp_step rfl fun K' hK' => ?_
     rw [if_pos (wanted_plain rfl)]
     unfold Oper.wp
     simp only [execOp]
     go_simp
     exact hK' _ _ ⟨_, rfl, Below.refl _ _, rfl⟩
    | 10, _ =>
     obtain ⟨s0, r0, _⟩ := hw 9 (by omega) (by kernel_rfl)
     have e0 : v 9 = .slice A' L c' := r0
     rw [e0] at s0
     replace s0 : a.tmps[21]? = some (.slice A' L c') := s0
     refine gw_t rfl (wanted_plain rfl) 135 21 _ _ rfl (fun v w => by go_simp) s0 ?_
     with_reducible refine (PC2.out w9 (chain2 HB1.out hb (Nat.le_refl _))).mono ?_
     rintro e w3 ⟨rfl, hb3⟩
     exact ⟨_, rfl, _, rfl, hb3, rfl⟩
   case done =>
    intro a w9 v lo hi' hdef hsz hoth hb hj hap
    obtain ⟨_, hv0, _, _⟩ := hj 0 (by omega)
    obtain ⟨_, hv5, _, _⟩ := hj 5 (by omega)
    obtain ⟨_, hv10, _, _⟩ := hj 10 (by omega)
    have ha := eq_puts hdef hsz hoth (fun i hi => (hj i hi).1)
    subst ha
    clear hj hoth hdef hsz hap
    change v 0 = _ at hv0
    change v 5 = _ at hv5
    change v 10 = _ at hv10
    simp only [puts, List.getD_cons_zero, List.getD_cons_succ, hv0, hv5, hv10]
    generalize v 1 = v1
    generalize v 2 = v2
    generalize v 3 = v3
    generalize v 4 = v4
    generalize v 6 = v6
    generalize v 7 = v7
    generalize v 8 = v8
    generalize v 9 = v9
    clear hv0 hv5 hv10
    simp only [Act.put, List.setIfInBounds_toArray, List.set_cons_zero, List.set_cons_succ]
    show wpList _ _ _ [_] _ _
    replace R1 := hI (R1.out.below hb)
    clear hb PC1 PC2 L10 M10
    go_wp2_with fail
    refine (hset.out _ R1.out).mono ?_
    rintro e w2 ⟨rfl, R2⟩
    have R2 := hI R2
    clear R1 hset
    have cw := cell_run L10w.out SB.out.1 HS.out HG.out R2.out
    go_wp2_with fail
    go_loopw [29] (fun v wr => ∃ (i hi : Nat), i ≤ L ∧ v = .int .i64 (i : Int) ∧ hi + Tm.nodesL (l.drop i) ≤ M ∧ Hid (eqTs (l.drop i) (l'.drop i) = r) ∧ Hid (RunT w wr g s hi)) (fun v _ => L - (intOf v).toNat)
    case atStart => exact ⟨0, s + 1, Nat.zero_le _, rfl, by rw [List.drop_zero]; exact hm1, by rw [List.drop_zero, List.drop_zero]; exact HR, R2⟩
    case round =>
     obtain ⟨i, hi, hiL, rfl, hhi, hE, hR⟩ := hrel
     obtain ⟨wo, rfl⟩ : ∃ wo : World, wo = wr := ⟨_, rfl⟩
     have j10 := cell_run L10w.out SB.out.1 HS.out HG.out hR.out
     have i10 := cell_run M10w.out SB.out.2 HS.out HG.out hR.out
     by_cases hlt : i < L
     · have hil : i < l.length := by rw [HL.out]; exact hlt
       have hil' : i < l'.length := by rw [HL'.out]; exact hlt
       obtain ⟨b1, o1, cs1, rfl, hP1⟩ := HA.out.arg hil
       obtain ⟨b2, o2, cs2, rfl, hP2⟩ := HA'.out.arg hil'
       have hE1 := hE.out
       rw [eqTs_drop hil hil'] at hE1
       have hs := Tm.nodesL_drop hil
       have CALL : Hid (∀ W, RunT w W g s hi → Calls Tryz.prog 139 #[.pointer (some ⟨g, 0, none⟩), .pointer (some ⟨b1, o1 + i * 11, none⟩), .pointer (some ⟨b2, o2 + i * 11, none⟩)] W (fun e w' => e = .returned (.bool (eqT l[i] l'[i])) ∧ RunT w w' g s (hi + l[i].nodes))) := fun W hr => by
        obtain ⟨hgr, k', hck, h1, h2⟩ := hr
        have hr : RunT w W g s hi := ⟨hgr, k', hck, h1, h2⟩
        refine (IH.out l[i] (List.getElem_mem hil) l'[i] b1 (o1 + i * 11) b2 (o2 + i * 11) cs1 cs2 W k' (hP1.run HS.out HG.out hr) (hP2.run HS.out HG.out hr) (Tm.bdL_mem bda.out (List.getElem_mem hil)) (Tm.bdL_mem bda'.out (List.getElem_mem hil')) (HS.out.later hgr.size) hck (by omega)).mono ?_
        rintro e w' ⟨he, hr'⟩
        exact ⟨he, (RunT.trans hgr h1 hr').more (by omega)⟩
       have hM2 : hi + l[i].nodes + Tm.nodesL (l.drop (i + 1)) ≤ M := by omega
       generalize eqT l[i] l'[i] = q at CALL hE1
       generalize l[i].nodes = qn at CALL hM2
       have HE1 := hI hE1
       clear hE hE1 hP1 hP2 hs R2 cw
       go_wp2_with fail
       go_still_tail 13, (by kernel_rfl)
       change wpList _ _ _ _ _ wo.drew
       have R3 := hI hR.out.drew
       clear hR j10 i10
       generalize wo.drew = w3 at R3 ⊢
       go_wp2_with fail
       refine (CALL.out _ R3.out).mono ?_
       rintro e w4 ⟨rfl, R4⟩
       have R4 := hI R4
       clear R3 CALL
       cases q with
       | false =>
        have er : r = false := by have := HE1.out; simpa using this.symm
        subst er
        go_wp2
        go_ret
        exact ⟨rfl, R4.out.more (by omega)⟩
       | true =>
        have HE2 : Hid (eqTs (l.drop (i + 1)) (l'.drop (i + 1)) = r) := by have := HE1.out; rw [Bool.true_and] at this; exact this
        clear HE1
        go_wp2
        go_roundw
        case rel => exact ⟨i + 1, hi + qn, by omega, by go_num, hM2, HE2, R4⟩
        case measure => simp [intOf]; omega
     · have hiL2 : i = L := by omega
       have hn2 : ¬ (i : Int) < L := by omega
       have er : r = true := by
        have := hE.out
        rw [hiL2, ← HL.out, List.drop_length, HL.out, ← HL'.out, List.drop_length] at this
        rw [← this]; exact eqTs_nil
       subst er
       clear hE hiL2 hlt R2 cw
       go_wp2
       go_ret
       exact ⟨rfl, hR.out.more (by omega)⟩
theorem agreeT (d : Nat) (hd : d ≤ 1000) (S : Nat → Prop) (g : Nat) (hg : ¬ S g) : ∀ (t t' : Tm) (b k b' k' : Nat) (cs cs' : List Value) (w : World) (s : Nat), TmP w S t b k cs → TmP w S t' b' k' cs' → t.bd d → t'.bd d → In S w → CtAt w g s → s + t.nodes ≤ 3000 →
 Calls Tryz.prog 139 #[.pointer (some ⟨g, 0, none⟩), .pointer (some ⟨b, k, none⟩), .pointer (some ⟨b', k', none⟩)] w (fun e w' => e = .returned (.bool (eqT t t')) ∧ RunT w w' g s (s + t.nodes)) := by
 intro t
 induction t using Tm.ind with
 | hv x => intro t' b k b' k' cs cs' w s h h' hb hb' hS hc hn; exact agreeStep d hd _ t' b k b' k' cs cs' w S g s h h' hb hb' hS hg hc hn (fun x hx => by simp [Tm.args] at hx)
 | hc o => intro t' b k b' k' cs cs' w s h h' hb hb' hS hc hn; exact agreeStep d hd _ t' b k b' k' cs cs' w S g s h h' hb hb' hS hg hc hn (fun x hx => by simp [Tm.args] at hx)
 | ha x l ih => intro t' b k b' k' cs cs' w s h h' hb hb' hS hc hn; exact agreeStep d hd _ t' b k b' k' cs cs' w S g s h h' hb hb' hS hg hc hn (fun x hx t' b k b' k' cs cs' W s' h1 h2 h3 h4 h5 h6 h7 => ih x hx t' b k b' k' cs cs' W s' h1 h2 h3 h4 h5 h6 h7)
theorem eqT_same2 (t t' : Tm) : eqT t t' = (t.kd == t'.kd && (t.nm.1.toList == t'.nm.1.toList && t.nm.2.toList == t'.nm.2.toList) && valE t t' && eqTs t.args t'.args) := by
 rw [eqT_same]
 unfold sameT
 cases h : eqTs t.args t'.args with
 | false => simp
 | true => simp [eqTs_len _ _ h]
theorem valR (t t' : Tm) (x0 x1 x2 x3 x4 x5 x6 y0 y1 y2 y3 y4 y5 y6 : Value) (w : World) (S : Nat → Prop) (hS : In S w) (hx : ValAt w S t [x0, x1, x2, x3, x4, x5, x6]) (hy : ValAt w S t' [y0, y1, y2, y3, y4, y5, y6]) (hk : t.kd = t'.kd) :
 ∀ W, Below w.heap.size w W → Calls Tryz.prog 58 #[.agg #[x0, x1, x2, x3, x4, x5, x6], .agg #[y0, y1, y2, y3, y4, y5, y6]] W (RetB W (valE t t')) := by
 intro W hw
 have Z : ∀ (a0 a1 a2 a3 a4 a5 a6 : Value), [a0, a1, a2, a3, a4, a5, a6] = zO → (Value.agg #[a0, a1, a2, a3, a4, a5, a6]) = .agg #[.int .i64 0, .string ⟨#[]⟩, .string ⟨#[]⟩, .string ⟨#[]⟩, .string ⟨#[]⟩, .string ⟨#[]⟩, .slice none 0 0] := by
  intro a0 a1 a2 a3 a4 a5 a6 h
  unfold zO at h
  simp only [List.cons.injEq, and_true] at h
  obtain ⟨rfl, rfl, rfl, rfl, rfl, rfl, rfl⟩ := h
  rfl
 cases t with
 | var s =>
  cases t' with
  | var s' => rw [Z _ _ _ _ _ _ _ hx, Z _ _ _ _ _ _ _ hy]; exact equalRZ W
  | con o => exact absurd hk (by simp [Tm.kd])
  | app s l => exact absurd hk (by simp [Tm.kd])
 | con o =>
  cases t' with
  | var s' => exact absurd hk (by simp [Tm.kd])
  | con o' =>
   obtain ⟨p, e1, hp⟩ := hx
   obtain ⟨p', e2, hp'⟩ := hy
   have h := equalO o o' p p' W S (hS.later hw.size) (hp.below hS hw) (hp'.below hS hw)
   unfold vO at h
   rw [← e1, ← e2] at h
   exact h
  | app s l => exact absurd hk (by simp [Tm.kd])
 | app s l =>
  cases t' with
  | var s' => exact absurd hk (by simp [Tm.kd])
  | con o' => exact absurd hk (by simp [Tm.kd])
  | app s' l' => rw [Z _ _ _ _ _ _ _ hx, Z _ _ _ _ _ _ _ hy]; exact equalRZ W
theorem equalRaw (w : World) (kd kd' : Int) (s1 s2 t1 t2 : ByteArray) (x0 x1 x2 x3 x4 x5 x6 y0 y1 y2 y3 y4 y5 y6 v v' : Value) (r q : Bool)
 (hc : kd = kd' → ∀ W, Below w.heap.size w W → Calls Tryz.prog 58 #[.agg #[x0, x1, x2, x3, x4, x5, x6], .agg #[y0, y1, y2, y3, y4, y5, y6]] W (RetB W r))
 (hq : ∀ W, Below w.heap.size w W → Calls Tryz.prog 83 #[v, v'] W (RetB W q)) :
 Calls Tryz.prog 22 #[.agg #[.int .i64 kd, .string s1, .string s2, x0, x1, x2, x3, x4, x5, x6, v], .agg #[.int .i64 kd', .string t1, .string t2, y0, y1, y2, y3, y4, y5, y6, v']] w (RetB w (kd == kd' && (s1.toList == t1.toList && s2.toList == t2.toList) && r && q)) := by
 have hA : Below w.heap.size w ((w.alloc (.cells #[.int .i64 kd, .string s1, .string s2, x0, x1, x2, x3, x4, x5, x6, v] 45)).alloc (.cells #[.int .i64 kd', .string t1, .string t2, y0, y1, y2, y3, y4, y5, y6, v'] 45)) := Below.alloc (Below.alloc (Below.refl _ _) (Nat.le_refl _) _) (by simp) _
 have B2 : TB ((w.alloc (.cells #[.int .i64 kd, .string s1, .string s2, x0, x1, x2, x3, x4, x5, x6, v] 45)).alloc (.cells #[.int .i64 kd', .string t1, .string t2, y0, y1, y2, y3, y4, y5, y6, v'] 45)) w.heap.size [.int .i64 kd, .string s1, .string s2, x0, x1, x2, x3, x4, x5, x6, v] := (Below.heap_alloc _ _ _ (by simp)).trans (heap_alloc_new w _)
 have B3 : TB ((w.alloc (.cells #[.int .i64 kd, .string s1, .string s2, x0, x1, x2, x3, x4, x5, x6, v] 45)).alloc (.cells #[.int .i64 kd', .string t1, .string t2, y0, y1, y2, y3, y4, y5, y6, v'] 45)) (w.heap.size + 1) [.int .i64 kd', .string t1, .string t2, y0, y1, y2, y3, y4, y5, y6, v'] := heap_new_at (by simp)
 have l0 := TB.cell B2 0 _ rfl
 have m0 := TB.cell B3 0 _ rfl
 have l1 := TB.cell B2 1 _ rfl
 have m1 := TB.cell B3 1 _ rfl
 have l2 := TB.cell B2 2 _ rfl
 have m2 := TB.cell B3 2 _ rfl
 have l3 := TB.cell B2 3 _ rfl
 have m3 := TB.cell B3 3 _ rfl
 have l4 := TB.cell B2 4 _ rfl
 have m4 := TB.cell B3 4 _ rfl
 have l5 := TB.cell B2 5 _ rfl
 have m5 := TB.cell B3 5 _ rfl
 have l6 := TB.cell B2 6 _ rfl
 have m6 := TB.cell B3 6 _ rfl
 have l7 := TB.cell B2 7 _ rfl
 have m7 := TB.cell B3 7 _ rfl
 have l8 := TB.cell B2 8 _ rfl
 have m8 := TB.cell B3 8 _ rfl
 have l9 := TB.cell B2 9 _ rfl
 have m9 := TB.cell B3 9 _ rfl
 have l10 := TB.cell B2 10 _ rfl
 have m10 := TB.cell B3 10 _ rfl
 have HA := hI hA
 clear hA B2 B3
 cases h0 : (kd == kd') with
 | false =>
  have hr : Hid ((false && (s1.toList == t1.toList && s2.toList == t2.toList) && r && q) = false) := by show _ = _; simp
  rw [hr.out]
  clear hc hq
  go_enter Tryz.func22, Tryz.ntmps22
  go_wp2_with fail
  go_ret
  exact ⟨rfl, HA.out⟩

 | true =>
  cases h1 : (s1.toList == t1.toList) with
  | false =>
   have hr : Hid ((true && (false && s2.toList == t2.toList) && r && q) = false) := by show _ = _; simp
   rw [hr.out]
   clear hc hq
   go_enter Tryz.func22, Tryz.ntmps22
   go_wp2_with fail
   go_ret
   exact ⟨rfl, HA.out⟩

  | true =>
   cases h2 : (s2.toList == t2.toList) with
   | false =>
    have hr : Hid ((true && (true && false) && r && q) = false) := by show _ = _; simp
    rw [hr.out]
    clear hc hq
    go_enter Tryz.func22, Tryz.ntmps22
    go_wp2_with fail
    go_ret
    exact ⟨rfl, HA.out⟩

   | true =>
    have HC := hI (hc (eq_of_beq h0) _ HA.out)
    have hr : Hid ((true && (true && true) && r && q) = (r && q)) := by show _ = _; simp
    rw [hr.out]
    clear hr hc
    cases r with
    | false =>
     have hr : Hid ((false && q) = false) := rfl
     rw [hr.out]
     clear hr hq
     go_enter Tryz.func22, Tryz.ntmps22
     go_wp2_with fail
     refine HC.out.mono ?_
     rintro e w3 ⟨rfl, hb3⟩
     have HB := hI (HA.out.trans (hb3.mono HA.out.size))
     clear hb3 l0 m0 l1 m1 l2 m2 l3 m3 l4 m4 l5 m5 l6 m6 l7 m7 l8 m8 l9 m9 l10 m10
     go_wp2_with fail
     go_ret
     exact ⟨rfl, HB.out⟩
    | true =>
     have hr : Hid ((true && q) = q) := rfl
     rw [hr.out]
     clear hr
     have HQ := hI hq
     have HL10 := hI l10
     have HM10 := hI m10
     clear hq
     go_enter Tryz.func22, Tryz.ntmps22
     go_wp2_with fail
     refine HC.out.mono ?_
     rintro e w3 ⟨rfl, hb3⟩
     have k10 := (hb3.cell (p := ⟨w.heap.size, 10, none⟩) (World.block_lt_of_cell? _ _ HL10.out)).trans HL10.out
     have n10 := (hb3.cell (p := ⟨w.heap.size + 1, 10, none⟩) (World.block_lt_of_cell? _ _ HM10.out)).trans HM10.out
     have HB := hI (HA.out.trans (hb3.mono HA.out.size))
     clear hb3 l0 m0 l1 m1 l2 m2 l3 m3 l4 m4 l5 m5 l6 m6 l7 m7 l8 m8 l9 m9 l10 m10 HL10 HM10
     go_wp2_with fail
     refine (HQ.out _ HB.out).mono ?_
     rintro e w4 ⟨rfl, hb4⟩
     have HB4 := hI (HB.out.trans (hb4.mono HB.out.size))
     clear hb4 k10 n10
     go_wp2_with fail
     go_ret
     exact ⟨rfl, HB4.out⟩
theorem Tm.indA {P : Tm → Prop} (h : ∀ t, (∀ x ∈ t.args, P x) → P t) (t : Tm) : P t := by
 induction t using Tm.ind with
 | hv s => exact h _ fun x hx => by simp [Tm.args] at hx
 | hc o => exact h _ fun x hx => by simp [Tm.args] at hx
 | ha s l ih => exact h _ fun x hx => ih x hx
def EaW (W wo : World) (l l' : List Tm) (i : Nat) (R : Bool) : Prop := eqTs (l.drop i) (l'.drop i) = R ∧ Below W.heap.size W wo
theorem equalAllR (l l' : List Tm) (v v' : Value) (w : World) (S : Nat → Prop) (hS : In S w) (ha : TsV w S l v) (ha' : TsV w S l' v') (hn : l.length ≤ 3000)
 (ke : ∀ x ∈ l, ∀ (t' : Tm) (W : World) (cs cs' : List Value), Below w.heap.size w W → TmAt W S x cs → TmAt W S t' cs' → Calls Tryz.prog 22 #[vTm cs, vTm cs'] W (RetB W (eqT x t'))) :
 Calls Tryz.prog 83 #[v, v'] w (RetB w (eqTs l l')) := by
 obtain ⟨A, c, rfl, ha⟩ := ha
 obtain ⟨A', c', rfl, ha'⟩ := ha'
 by_cases hll : l.length = l'.length
 · obtain ⟨L, hL⟩ : ∃ L, l.length = L := ⟨_, rfl⟩
   obtain ⟨R, hR⟩ : ∃ R, eqTs l l' = R := ⟨_, rfl⟩
   have HA := hI ha
   have HA' := hI ha'
   have HS := hI hS
   have HI : Hid (∀ i (hi : i < l.length), ∀ (t' : Tm) (W : World) (cs cs' : List Value), Below w.heap.size w W → TmAt W S l[i] cs → TmAt W S t' cs' → Calls Tryz.prog 22 #[vTm cs, vTm cs'] W (RetB W (eqT l[i] t'))) := fun i hi => ke _ (List.getElem_mem hi)
   have HC1 : Hid (L ≤ c) := hL ▸ ha.1
   have HC2 : Hid (L ≤ c') := by show _ ≤ _; rw [← hL, hll]; exact ha'.1
   have hL' : l'.length = L := by rw [← hll]; exact hL
   rw [hL] at hn
   rw [hR, hL', hL]
   have h0 : Hid (EaW w w l l' 0 R) := ⟨by rw [List.drop_zero, List.drop_zero]; exact hR, Below.refl _ _⟩
   have HL := hI hL
   have HL' := hI hL'
   clear ha ha' hS ke hL hL' hll hR
   go_enter Tryz.func83, Tryz.ntmps83
   go_wp2_with fail
   go_loopw [5] (fun v wr => ∃ (i : Nat), i ≤ L ∧ v = .int .i64 (i : Int) ∧ Hid (EaW w wr l l' i R)) (fun v _ => L - (intOf v).toNat)
   case atStart => exact ⟨0, Nat.zero_le _, rfl, h0⟩
   case round =>
    clear h0
    obtain ⟨i, hiL, rfl, hE⟩ := hrel
    obtain ⟨wo, rfl⟩ : ∃ wo : World, wo = wr := ⟨_, rfl⟩
    obtain ⟨hf, hbel⟩ := hE.out
    by_cases hlt : i < L
    · have hil : i < l.length := by rw [HL.out]; exact hlt
      have hil' : i < l'.length := by rw [HL'.out]; exact hlt
      obtain ⟨b, o, cs, rfl, hP⟩ := HA.out.arg hil
      obtain ⟨b', o', cs', rfl, hP'⟩ := HA'.out.arg hil'
      have hQ := hP.below HS.out hbel
      have hQ' := hP'.below HS.out hbel
      obtain ⟨x0, x1, x2, x3, x4, x5, x6, A1, c1, ecs, _, _, l0, l1, l2, l3, l4, l5, l6, l7, l8, l9, l10⟩ := hQ.cells
      obtain ⟨y0, y1, y2, y3, y4, y5, y6, A2, c2, ecs', _, _, m0, m1, m2, m3, m4, m5, m6, m7, m8, m9, m10⟩ := hQ'.cells
      subst ecs ecs'
      have HLB : Hid (b < wo.heap.size) := Nat.lt_of_lt_of_le (HS.out b hP.1.1) hbel.size
      have HMB : Hid (b' < wo.heap.size) := Nat.lt_of_lt_of_le (HS.out b' hP'.1.1) hbel.size
      have CALL : Hid (∀ X, Below wo.heap.size wo X → Calls Tryz.prog 22 #[vTm [.int .i64 l[i].kd, .string l[i].nm.1, .string l[i].nm.2, x0, x1, x2, x3, x4, x5, x6, .slice A1 l[i].args.length c1], vTm [.int .i64 l'[i].kd, .string l'[i].nm.1, .string l'[i].nm.2, y0, y1, y2, y3, y4, y5, y6, .slice A2 l'[i].args.length c2]] X (RetB X (eqT l[i] l'[i]))) := fun X hX =>
       HI.out i hil l'[i] X _ _ (hbel.trans (hX.mono hbel.size)) (hQ.2.1.below (HS.out.later hbel.size) hX) (hQ'.2.1.below (HS.out.later hbel.size) hX)
      have hstep := eqTs_drop hil hil'
      rw [hf] at hstep
      have HST := hI hstep
      have HB0 := hI hbel
      have HLT := hI hlt
      obtain ⟨r, hr⟩ : ∃ r, eqT l[i] l'[i] = r := ⟨_, rfl⟩
      rw [hr] at HST CALL
      unfold vTm at CALL
      generalize l[i] = x at *
      generalize l'[i] = y at *
      have L0 := hI l0
      have M0 := hI m0
      have L1 := hI l1
      have M1 := hI m1
      have L2 := hI l2
      have M2 := hI m2
      have L3 := hI l3
      have M3 := hI m3
      have L4 := hI l4
      have M4 := hI m4
      have L5 := hI l5
      have M5 := hI m5
      have L6 := hI l6
      have M6 := hI m6
      have L7 := hI l7
      have M7 := hI m7
      have L8 := hI l8
      have M8 := hI m8
      have L9 := hI l9
      have M9 := hI m9
      have L10 := hI l10
      have M10 := hI m10
      clear l0 m0 l1 m1 l2 m2 l3 m3 l4 m4 l5 m5 l6 m6 l7 m7 l8 m8 l9 m9 l10 m10 hP hP' hQ hQ' hf hE hbel hstep
      go_wp2_with fail
      refine wp_region_grow (l := _) 9 (by kernel_rfl) (by kernel_rfl) (fun i => [17, 18, 19, 20, 21, 22, 23, 24, 25].getD i 0) (LR [LV (.slice (some ⟨b, o, none⟩) L c), LV (.int .i64 (i : Int)), LV (.pointer (some ⟨b, o + i * 11, none⟩)), LV (.agg #[.int .i64 x.kd, .string x.nm.1, .string x.nm.2, x0, x1, x2, x3, x4, x5, x6, .slice A1 x.args.length c1]), LV (.slice (some ⟨b', o', none⟩) L c'), LV (.int .i64 (i : Int)), LV (.pointer (some ⟨b', o' + i * 11, none⟩)), LV (.agg #[.int .i64 y.kd, .string y.nm.1, .string y.nm.2, y0, y1, y2, y3, y4, y5, y6, .slice A2 y.args.length c2]), LV (.bool r)]) (LR_mono ⟨mLV _, mLV _, mLV _, mLV _, mLV _, mLV _, mLV _, mLV _, mLV _, trivial⟩) (by
       intro i j hi hj h
       exact inj_getD [17, 18, 19, 20, 21, 22, 23, 24, 25] (by decide) i j hi hj h) (by
       intro i hi
       exact lt_getD 27 [17, 18, 19, 20, 21, 22, 23, 24, 25] (by decide) i hi) ?step ?done
      case step =>
       intro ii hii a w9 v lo hi' hoth hb hw
       have sl0 : a.tmps[0]? = some (.slice (some ⟨b, o, none⟩) L c) := (hoth 0 (fun j hj => ne_getD 0 _ (by decide) j hj)).trans rfl
       have sl1 : a.tmps[1]? = some (.slice (some ⟨b', o', none⟩) L c') := (hoth 1 (fun j hj => ne_getD 1 _ (by decide) j hj)).trans rfl
       have sl5 : a.tmps[5]? = some (.int .i64 (i : Int)) := (hoth 5 (fun j hj => ne_getD 5 _ (by decide) j hj)).trans rfl
       match ii, hii with
       | 0, _ =>
        exact gw_move rfl (wanted_plain rfl) 0 _ rfl sl0 ⟨_, rfl, Below.refl _ _, rfl⟩
       | 1, _ =>
        exact gw_move rfl (wanted_plain rfl) 5 _ rfl sl5 ⟨_, rfl, Below.refl _ _, rfl⟩
       | 2, _ =>
        obtain ⟨s0, r0, _⟩ := hw 0 (by omega) (by kernel_rfl)
        have e0 : v 0 = .slice (some ⟨b, o, none⟩) L c := r0
        rw [e0] at s0
        replace s0 : a.tmps[17]? = some (.slice (some ⟨b, o, none⟩) L c) := s0
        obtain ⟨s1, r1, _⟩ := hw 1 (by omega) (by kernel_rfl)
        have e1 : v 1 = .int .i64 (i : Int) := r1
        rw [e1] at s1
        replace s1 : a.tmps[18]? = some (.int .i64 (i : Int)) := s1
        have hil := HLT.out
        have hcL := HC1.out
        refine wpOp_step rfl fun K' hK' => ?_
        rw [if_pos (wanted_plain rfl)]
        unfold Oper.wp
        simp only [execOp]
        go_simp
        exact hK' _ _ ⟨_, rfl, Below.refl _ _, rfl⟩
       | 3, _ =>
        obtain ⟨s0, r0, _⟩ := hw 2 (by omega) (by kernel_rfl)
        have e0 : v 2 = .pointer (some ⟨b, o + i * 11, none⟩) := r0
        rw [e0] at s0
        replace s0 : a.tmps[19]? = some (.pointer (some ⟨b, o + i * 11, none⟩)) := s0
        have cc0 := (hb.cell (p := ⟨b, o + i * 11, none⟩) HLB.out).trans L0.out
        have cc1 := (hb.cell (p := ⟨b, o + i * 11 + 1, none⟩) HLB.out).trans L1.out
        have cc2 := (hb.cell (p := ⟨b, o + i * 11 + 2, none⟩) HLB.out).trans L2.out
        have cc3 := (hb.cell (p := ⟨b, o + i * 11 + 3, none⟩) HLB.out).trans L3.out
        have cc4 := (hb.cell (p := ⟨b, o + i * 11 + 4, none⟩) HLB.out).trans L4.out
        have cc5 := (hb.cell (p := ⟨b, o + i * 11 + 5, none⟩) HLB.out).trans L5.out
        have cc6 := (hb.cell (p := ⟨b, o + i * 11 + 6, none⟩) HLB.out).trans L6.out
        have cc7 := (hb.cell (p := ⟨b, o + i * 11 + 7, none⟩) HLB.out).trans L7.out
        have cc8 := (hb.cell (p := ⟨b, o + i * 11 + 8, none⟩) HLB.out).trans L8.out
        have cc9 := (hb.cell (p := ⟨b, o + i * 11 + 9, none⟩) HLB.out).trans L9.out
        have cc10 := (hb.cell (p := ⟨b, o + i * 11 + 10, none⟩) HLB.out).trans L10.out
        refine wpOp_step rfl fun K' hK' => ?_
        rw [if_pos (wanted_plain rfl)]
        unfold Oper.wp
        simp only [execOp]
        go_simp
        exact hK' _ _ ⟨_, rfl, Below.refl _ _, rfl⟩
       | 4, _ =>
        exact gw_move rfl (wanted_plain rfl) 1 _ rfl sl1 ⟨_, rfl, Below.refl _ _, rfl⟩
       | 5, _ =>
        exact gw_move rfl (wanted_plain rfl) 5 _ rfl sl5 ⟨_, rfl, Below.refl _ _, rfl⟩
       | 6, _ =>
        obtain ⟨s0, r0, _⟩ := hw 4 (by omega) (by kernel_rfl)
        have e0 : v 4 = .slice (some ⟨b', o', none⟩) L c' := r0
        rw [e0] at s0
        replace s0 : a.tmps[21]? = some (.slice (some ⟨b', o', none⟩) L c') := s0
        obtain ⟨s1, r1, _⟩ := hw 5 (by omega) (by kernel_rfl)
        have e1 : v 5 = .int .i64 (i : Int) := r1
        rw [e1] at s1
        replace s1 : a.tmps[22]? = some (.int .i64 (i : Int)) := s1
        have hil := HLT.out
        have hcL := HC2.out
        refine wpOp_step rfl fun K' hK' => ?_
        rw [if_pos (wanted_plain rfl)]
        unfold Oper.wp
        simp only [execOp]
        go_simp
        exact hK' _ _ ⟨_, rfl, Below.refl _ _, rfl⟩
       | 7, _ =>
        obtain ⟨s0, r0, _⟩ := hw 6 (by omega) (by kernel_rfl)
        have e0 : v 6 = .pointer (some ⟨b', o' + i * 11, none⟩) := r0
        rw [e0] at s0
        replace s0 : a.tmps[23]? = some (.pointer (some ⟨b', o' + i * 11, none⟩)) := s0
        have cc0 := (hb.cell (p := ⟨b', o' + i * 11, none⟩) HMB.out).trans M0.out
        have cc1 := (hb.cell (p := ⟨b', o' + i * 11 + 1, none⟩) HMB.out).trans M1.out
        have cc2 := (hb.cell (p := ⟨b', o' + i * 11 + 2, none⟩) HMB.out).trans M2.out
        have cc3 := (hb.cell (p := ⟨b', o' + i * 11 + 3, none⟩) HMB.out).trans M3.out
        have cc4 := (hb.cell (p := ⟨b', o' + i * 11 + 4, none⟩) HMB.out).trans M4.out
        have cc5 := (hb.cell (p := ⟨b', o' + i * 11 + 5, none⟩) HMB.out).trans M5.out
        have cc6 := (hb.cell (p := ⟨b', o' + i * 11 + 6, none⟩) HMB.out).trans M6.out
        have cc7 := (hb.cell (p := ⟨b', o' + i * 11 + 7, none⟩) HMB.out).trans M7.out
        have cc8 := (hb.cell (p := ⟨b', o' + i * 11 + 8, none⟩) HMB.out).trans M8.out
        have cc9 := (hb.cell (p := ⟨b', o' + i * 11 + 9, none⟩) HMB.out).trans M9.out
        have cc10 := (hb.cell (p := ⟨b', o' + i * 11 + 10, none⟩) HMB.out).trans M10.out
        refine wpOp_step rfl fun K' hK' => ?_
        rw [if_pos (wanted_plain rfl)]
        unfold Oper.wp
        simp only [execOp]
        go_simp
        exact hK' _ _ ⟨_, rfl, Below.refl _ _, rfl⟩
       | 8, _ =>
        obtain ⟨s0, r0, _⟩ := hw 3 (by omega) (by kernel_rfl)
        have e0 : v 3 = .agg #[.int .i64 x.kd, .string x.nm.1, .string x.nm.2, x0, x1, x2, x3, x4, x5, x6, .slice A1 x.args.length c1] := r0
        rw [e0] at s0
        replace s0 : a.tmps[20]? = some (.agg #[.int .i64 x.kd, .string x.nm.1, .string x.nm.2, x0, x1, x2, x3, x4, x5, x6, .slice A1 x.args.length c1]) := s0
        obtain ⟨s1, r1, _⟩ := hw 7 (by omega) (by kernel_rfl)
        have e1 : v 7 = .agg #[.int .i64 y.kd, .string y.nm.1, .string y.nm.2, y0, y1, y2, y3, y4, y5, y6, .slice A2 y.args.length c2] := r1
        rw [e1] at s1
        replace s1 : a.tmps[24]? = some (.agg #[.int .i64 y.kd, .string y.nm.1, .string y.nm.2, y0, y1, y2, y3, y4, y5, y6, .slice A2 y.args.length c2]) := s1
        refine gw_tt rfl (wanted_plain rfl) 22 20 24 _ _ _ rfl (fun v u w => by go_simp) s0 s1 ?_
        with_reducible refine (CALL.out w9 hb).mono ?_
        rintro e w3 ⟨rfl, hb3⟩
        exact ⟨_, rfl, _, rfl, hb3, rfl⟩
      case done =>
       intro a w9 v lo hi' hdef hsz hoth hb hj hap
       obtain ⟨_, hv8, _, _⟩ := hj 8 (by omega)
       have ha := eq_puts hdef hsz hoth (fun i hi => (hj i hi).1)
       subst ha
       clear hj hoth hdef hsz hap
       change v 8 = _ at hv8
       simp only [puts, List.getD_cons_zero, List.getD_cons_succ, hv8]
       generalize v 0 = v0
       generalize v 1 = v1
       generalize v 2 = v2
       generalize v 3 = v3
       generalize v 4 = v4
       generalize v 5 = v5
       generalize v 6 = v6
       generalize v 7 = v7
       clear hv8
       simp only [Act.put, List.setIfInBounds_toArray, List.set_cons_zero, List.set_cons_succ]
       show wpList _ _ _ [_] _ _
       have HB := hI (HB0.out.trans (hb.mono HB0.out.size))
       clear hb CALL
       cases r with
       | true =>
        go_wp2_with fail
        go_roundw
        case rel => exact ⟨i + 1, by have := HLT.out; omega, by go_num, ⟨by have := HST.out; rw [this]; rfl, HB.out⟩⟩
        case measure => have := HLT.out; simp [intOf]; omega
       | false =>
        have hR : R = false := by rw [HST.out]; rfl
        subst hR
        go_wp2_with fail
        go_ret
        exact ⟨rfl, HB.out⟩
    · have hiL2 : i = L := by omega
      have hn : ¬ (i : Int) < L := by omega
      have hR : R = true := by
       rw [← hf, hiL2, ← HL.out, List.drop_length, HL.out, ← HL'.out, List.drop_length]
       exact eqTs_nil
      subst hR
      have HB := hI hbel
      clear hE hbel hf hlt
      go_wp2
      go_ret
      exact ⟨rfl, HB.out⟩
 · have hR : eqTs l l' = false := by
    cases h : eqTs l l' with
    | false => rfl
    | true => exact absurd (eqTs_len _ _ h) hll
   rw [hR]
   have hne : ((l.length : Int) == (l'.length : Int)) = false := by rw [beq_eq_false_iff_ne]; omega
   have hne2 : ¬ (l.length : Int) = (l'.length : Int) := by omega
   clear ha ha' hR ke hS hll
   generalize l.length = n at *
   generalize l'.length = n' at *
   go_enter Tryz.func83, Tryz.ntmps83
   go_wp2_with fail
   go_ret
   exact ⟨rfl, Below.refl _ _⟩
theorem equalR (S : Nat → Prop) : ∀ (t t' : Tm) (w : World) (cs cs' : List Value), In S w → t.nodes ≤ 3000 → TmAt w S t cs → TmAt w S t' cs' →
 Calls Tryz.prog 22 #[vTm cs, vTm cs'] w (RetB w (eqT t t')) := by
 intro t
 induction t using Tm.indA with
 | h t ih =>
  intro t' w cs cs' hS hn h h'
  obtain ⟨x0, x1, x2, x3, x4, x5, x6, A, c, rfl, hv, ha⟩ := h.eleven
  obtain ⟨y0, y1, y2, y3, y4, y5, y6, A', c', rfl, hv', ha'⟩ := h'.eleven
  rw [eqT_same2]
  have hna := t.nodes_args
  have hl := Tm.nodesL_len t.args
  refine equalRaw w t.kd t'.kd t.nm.1 t.nm.2 t'.nm.1 t'.nm.2 x0 x1 x2 x3 x4 x5 x6 y0 y1 y2 y3 y4 y5 y6 _ _ (valE t t') (eqTs t.args t'.args) (fun hk => valR t t' x0 x1 x2 x3 x4 x5 x6 y0 y1 y2 y3 y4 y5 y6 w S hS hv hv' hk) fun W hw => ?_
  exact equalAllR t.args t'.args _ _ W S (hS.later hw.size) ⟨A, c, rfl, ha.below hS hw⟩ ⟨A', c', rfl, ha'.below hS hw⟩ (by omega) fun x hx t' X cs cs' hX k k' => ih x hx t' X cs cs' (hS.later (chain2 hw hX (Nat.le_refl _)).size) (by have := Tm.nodes_mem hx; omega) k k'
def uN (s : ByteArray) : Nm := (BA [117, 115, 101, 114], s)
def vN4 : List Nm := [uN ⟨#[120]⟩, uN ⟨#[121]⟩, uN ⟨#[122]⟩, uN ⟨#[117]⟩]
def vAt (n : Int) : Nm := vN4.getD (n % 4).toNat (uN ⟨#[120]⟩)
def fNs : List ByteArray := [⟨#[102]⟩, ⟨#[103]⟩, ⟨#[104]⟩]
def fAt (n : Int) : Nm := uN (fNs.getD (n % 3).toNat ⟨#[102]⟩)
mutual
def mtP (PO : Rw → Ob → Prop) : Rw → Tm → Prop
 | .mk k n s l, t => if k % 5 < 2 then t = .var (vAt n) else if k % 5 = 2 then ∃ o, t = .con o ∧ PO (.mk n n s l) o ∧ OkO (4 * (1 + Rw.cnts l)) o else ∃ ts, t = .app (fAt n) ts ∧ ts.length = min 3 l.length ∧ mtsP PO l ts
def mtsP (PO : Rw → Ob → Prop) : List Rw → List Tm → Prop
 | _, [] => True
 | [], _ :: _ => False
 | r :: rs, t :: ts => mtP PO r t ∧ mtsP PO rs ts
end
theorem mtsP_nil (PO : Rw → Ob → Prop) (l : List Rw) : mtsP PO l [] := by cases l <;> (unfold mtsP; trivial)
theorem mtsP_snoc (PO : Rw → Ob → Prop) : ∀ (l : List Rw) (ts : List Tm) (t : Tm) (hi : ts.length < l.length), mtsP PO l ts → mtP PO l[ts.length] t → mtsP PO l (ts ++ [t])
 | r :: rs, [], t, _, _, h => by
  show mtsP PO (r :: rs) [t]
  unfold mtsP
  exact ⟨h, mtsP_nil _ _⟩
 | r :: rs, x :: ts, t, hi, h, h' => by
  unfold mtsP at h
  show mtsP PO (r :: rs) (x :: (ts ++ [t]))
  unfold mtsP
  exact ⟨h.1, mtsP_snoc PO rs ts t (by simpa using hi) h.2 h'⟩
mutual
theorem mtP_nodes {PO : Rw → Ob → Prop} : ∀ (r : Rw) (t : Tm), mtP PO r t → t.nodes ≤ 4 * r.cnt
 | .mk k n s l, t, h => by
  unfold mtP at h
  unfold Rw.cnt
  split at h
  · subst h; unfold Tm.nodes; omega
  · split at h
    · obtain ⟨o, rfl, _, ho⟩ := h
      unfold Tm.nodes; exact ho.nodes
    · obtain ⟨ts, rfl, _, hs⟩ := h
      have := mtsP_nodes l ts hs
      unfold Tm.nodes; omega
theorem mtsP_nodes {PO : Rw → Ob → Prop} : ∀ (l : List Rw) (ts : List Tm), mtsP PO l ts → Tm.nodesL ts ≤ 4 * Rw.cnts l
 | _, [], _ => by unfold Tm.nodesL; omega
 | [], _ :: _, h => by unfold mtsP at h; exact h.elim
 | r :: rs, t :: ts, h => by
  unfold mtsP at h
  unfold Tm.nodesL Rw.cnts
  have h1 := mtP_nodes r t h.1
  have h2 := mtsP_nodes rs ts h.2
  omega
end
mutual
theorem mtP_bd {PO : Rw → Ob → Prop} : ∀ (r : Rw) (t : Tm), mtP PO r t → t.bd 10
 | .mk k n s l, t, h => by
  unfold mtP at h
  split at h
  · subst h; unfold Tm.bd; trivial
  · split at h
    · obtain ⟨o, rfl, _, ho⟩ := h
      unfold Tm.bd; exact ho.bd
    · obtain ⟨ts, rfl, _, hs⟩ := h
      unfold Tm.bd; exact mtsP_bd l ts hs
theorem mtsP_bd {PO : Rw → Ob → Prop} : ∀ (l : List Rw) (ts : List Tm), mtsP PO l ts → Tm.bdL 10 ts
 | _, [], _ => by unfold Tm.bdL; trivial
 | [], _ :: _, h => by unfold mtsP at h; exact h.elim
 | r :: rs, t :: ts, h => by
  unfold mtsP at h
  unfold Tm.bdL
  exact ⟨mtP_bd r t h.1, mtsP_bd rs ts h.2⟩
end
mutual
theorem mtP_det {PO : Rw → Ob → Prop} (hP : ∀ r o o', PO r o → PO r o' → o = o') : ∀ (r : Rw) (t t' : Tm), mtP PO r t → mtP PO r t' → t = t'
 | .mk k n s l, t, t', h, h' => by
  unfold mtP at h h'
  split at h
  · rename_i h0
    rw [if_pos h0] at h'
    rw [h, h']
  · rename_i h0
    rw [if_neg h0] at h'
    split at h
    · rename_i h1
      rw [if_pos h1] at h'
      obtain ⟨o, rfl, ho, _⟩ := h
      obtain ⟨o', rfl, ho', _⟩ := h'
      rw [hP _ o o' ho ho']
    · rename_i h1
      rw [if_neg h1] at h'
      obtain ⟨ts, rfl, hl, hs⟩ := h
      obtain ⟨ts', rfl, hl', hs'⟩ := h'
      rw [mtsP_det hP l ts ts' (by omega) hs hs']
theorem mtsP_det {PO : Rw → Ob → Prop} (hP : ∀ r o o', PO r o → PO r o' → o = o') : ∀ (l : List Rw) (ts ts' : List Tm), ts.length = ts'.length → mtsP PO l ts → mtsP PO l ts' → ts = ts'
 | _, [], [], _, _, _ => rfl
 | _, [], _ :: _, e, _, _ => by simp at e
 | _, _ :: _, [], e, _, _ => by simp at e
 | [], _ :: _, _ :: _, _, h, _ => by unfold mtsP at h; exact h.elim
 | r :: rs, t :: ts, t' :: ts', e, h, h' => by
  unfold mtsP at h h'
  rw [mtP_det hP r t t' h.1 h'.1, mtsP_det hP rs ts ts' (by simpa using e) h.2 h'.2]
end
def NsV (w : World) (S : Nat → Prop) (l : List Nm) (v : Value) : Prop := ∃ A c, v = .slice A l.length c ∧ l.length ≤ c ∧
 (0 < l.length → ∃ b o, A = some ⟨b, o, none⟩ ∧ (S b ∧ Plain w b) ∧ ∀ i (hi : i < l.length), w.cell? ⟨b, o + i * 2, none⟩ = some (.string l[i].1) ∧ w.cell? ⟨b, o + i * 2 + 1, none⟩ = some (.string l[i].2))
theorem NsV.keep {w w' : World} {S S' : Nat → Prop} (hS : ∀ b, S b → S' b) (hk : ∀ b, S b → w'.heap[b]? = w.heap[b]?) {l : List Nm} {v : Value} (h : NsV w S l v) : NsV w' S' l v := by
 obtain ⟨A, c, h1, h2, h3⟩ := h
 refine ⟨A, c, h1, h2, fun hl => ?_⟩
 obtain ⟨b, o, e, hb, hr⟩ := h3 hl
 exact ⟨b, o, e, ⟨hS b hb.1, hb.2.keep (hk b hb.1)⟩, fun i hi => ⟨(World.cell?_of_block (a := ⟨b, o + i * 2, none⟩) (hk b hb.1)).trans (hr i hi).1, (World.cell?_of_block (a := ⟨b, o + i * 2 + 1, none⟩) (hk b hb.1)).trans (hr i hi).2⟩⟩
theorem NsV.more {w : World} {S S' : Nat → Prop} {l : List Nm} {v : Value} (h : NsV w S l v) (hS : ∀ b, S b → S' b) : NsV w S' l v := h.keep hS fun _ _ => rfl
def RetNs (w : World) (l : List Nm) (e : Ending) (w' : World) : Prop := ∃ v, e = .returned v ∧ NsV w' (Upto w w' NoB) l v ∧ Below w.heap.size w w'
theorem varsT (n : Nat) (hn : n ≤ 4) (w : World) : Calls Tryz.prog 52 #[.int .i64 n] w (RetNs w (vN4.take n)) := by
 have HU : ∀ (s : ByteArray) (W : World), Below w.heap.size w W → Calls Tryz.prog 51 #[.string s] W (fun e w' => e = .returned (.agg #[.string (BA [117, 115, 101, 114]), .string s]) ∧ Below w.heap.size w w') := fun s W hb => by
  refine (userO s W).mono ?_
  rintro e w' ⟨rfl, h⟩
  exact ⟨rfl, hb.trans (h.mono hb.size)⟩
 have hQ : Hid (∀ W, Below w.heap.size w W → RetNs w (vN4.take n) (.returned (.slice (some ⟨W.heap.size, 0, none⟩) n 4)) (W.alloc (.cells #[.string (BA [117, 115, 101, 114]), .string ⟨#[120]⟩, .string (BA [117, 115, 101, 114]), .string ⟨#[121]⟩, .string (BA [117, 115, 101, 114]), .string ⟨#[122]⟩, .string (BA [117, 115, 101, 114]), .string ⟨#[117]⟩] 24))) := fun W hb => by
  have hl : (vN4.take n).length = n := by simp [vN4]; omega
  refine ⟨_, rfl, ⟨some ⟨W.heap.size, 0, none⟩, 4, by rw [hl], by omega, fun _ => ⟨W.heap.size, 0, rfl, ⟨.inr ⟨hb.size, by simp⟩, _, _, heap_alloc_new W _⟩, fun i hi => ?_⟩⟩, Below.alloc hb hb.size _⟩
  have hi4 : i < 4 := by omega
  have h0 : (vN4.take n)[i] = vN4[i]'(by show i < 4; omega) := by simp
  rw [h0, Nat.zero_add, cell_of_row _ _ _ _ _ _ (heap_alloc_new W _), cell_of_row _ _ _ _ _ _ (heap_alloc_new W _)]
  match i, hi4 with
  | 0, _ => exact ⟨rfl, rfl⟩
  | 1, _ => exact ⟨rfl, rfl⟩
  | 2, _ => exact ⟨rfl, rfl⟩
  | 3, _ => exact ⟨rfl, rfl⟩
 have hm : min (n : Int) 4 = n := by omega
 have hm2 : max 0 (n : Int) = n := by omega
 have hb0 : Below w.heap.size w w := Below.refl _ _
 go_enter Tryz.func52, Tryz.ntmps52
 go_wp2_with fail
 refine (HU ⟨#[120]⟩ _ hb0).mono ?_
 rintro e w1 ⟨rfl, hb1⟩
 go_wp2_with fail
 refine (HU ⟨#[121]⟩ _ hb1).mono ?_
 rintro e w2 ⟨rfl, hb2⟩
 go_wp2_with fail
 refine (HU ⟨#[122]⟩ _ hb2).mono ?_
 rintro e w3 ⟨rfl, hb3⟩
 go_wp2_with fail
 refine (HU ⟨#[117]⟩ _ hb3).mono ?_
 rintro e w4 ⟨rfl, hb4⟩
 have HB := hI hb4
 clear hb1 hb2 hb3 hb4 hb0 HU
 go_wp2_with fail
 go_ret
 exact hQ.out _ HB.out
def RetXP (w : World) (m : Nat) (P : Ob → Prop) (e : Ending) (w' : World) : Prop := ∃ o p, e = .returned (vO o p) ∧ Pair w' (Upto w w' NoB) o p ∧ Below w.heap.size w w' ∧ OkO m o ∧ P o
def OMk (PO : Rw → Ob → Prop) : Prop := ∀ (r : Rw) (cs : List Value) (w : World) (S : Nat → Prop), In S w → RawAt w S r cs → r.ok → Tab w → Calls Tryz.prog 21 #[.agg cs.toArray] w (RetXP w (4 * r.cnt - 1) (PO r))
def RetTP (w : World) (P : Tm → Prop) (e : Ending) (w' : World) : Prop := ∃ t, RetT w NoB t e w' ∧ P t
theorem OkO.le {m m' : Nat} {o : Ob} (h : OkO m o) (hm : m ≤ m') : OkO m' o := ⟨h.bd, Nat.le_trans h.nodes hm, h.tx⟩
structure MdW (w W : World) (raw : Array Value) : Prop where
 bel : Below w.heap.size w W
 b0 : W.heap[w.heap.size]? = some (.cells raw 40 (0, 0))
 b1 : TB W (w.heap.size + 1) zT
theorem MdW.below {w W W' : World} {raw : Array Value} (h : MdW w W raw) (hb : Below W.heap.size W W') : MdW w W' raw := by
 have h1 := h.b1.lt
 exact ⟨h.bel.trans (hb.mono (by omega)), (hb.block _ (by omega)).trans h.b0, h.b1.keep hb⟩
theorem MdW.cell {w W : World} {raw : Array Value} (h : MdW w W raw) (i : Nat) : W.cell? ⟨w.heap.size, i, none⟩ = raw[i]? := cell_of_row _ _ _ _ _ _ h.b0
theorem MdW.new (w : World) (raw : Array Value) : MdW w ((w.alloc (.cells raw 40)).alloc (.cells #[.int .i64 0, .string ⟨#[]⟩, .string ⟨#[]⟩, .int .i64 0, .string ⟨#[]⟩, .string ⟨#[]⟩, .string ⟨#[]⟩, .string ⟨#[]⟩, .string ⟨#[]⟩, .slice none 0 0, .slice none 0 0] 45)) raw :=
 ⟨Below.alloc (Below.alloc (Below.refl _ _) (Nat.le_refl _) _) (by simp) _, heap_alloc2_old w _ _, heap_new_at (by simp)⟩
theorem madeVar (PO : Rw → Ob → Prop) (k n : Int) (s : ByteArray) (l : List Rw) (A : Option Addr) (c : Nat) (w : World) (hq : k % 5 < 2) (hk : I64 k) (hn : I64 n) :
 Calls Tryz.prog 20 #[.agg #[.int .i64 k, .int .i64 n, .string s, .slice A l.length c]] w (RetTP w (mtP PO (.mk k n s l))) := by
 have HK := hI hk
 have HN := hI hn
 have HQ := hI hq
 have HP : Hid (mtP PO (.mk k n s l) (.var (vAt n))) := by
  show mtP PO (.mk k n s l) (.var (vAt n))
  unfold mtP; rw [if_pos hq]
 clear hk hn hq
 go_enter Tryz.func20, Tryz.ntmps20
 go_wp2_with fail
 have M := MdW.new w #[.int .i64 k, .int .i64 n, .string s, .slice A l.length c]
 refine (modO k 5 _ HK.out.1 HK.out.2 (by decide) (by decide)).mono ?_
 rintro e w1 ⟨rfl, rfl⟩
 generalize ((w.alloc (.cells #[.int .i64 k, .int .i64 n, .string s, .slice A l.length c] 40)).alloc (.cells #[.int .i64 0, .string ⟨#[]⟩, .string ⟨#[]⟩, .int .i64 0, .string ⟨#[]⟩, .string ⟨#[]⟩, .string ⟨#[]⟩, .string ⟨#[]⟩, .string ⟨#[]⟩, .slice none 0 0, .slice none 0 0] 45)) = W at M ⊢
 have hq := HQ.out
 have q0 := Int.emod_nonneg k (show (5 : Int) ≠ 0 by decide)
 clear HQ
 generalize k % 5 = q at hq q0 ⊢
 go_wp2_with fail
 refine (varsT 4 (by decide) W).mono ?_
 rintro e w2 ⟨v, rfl, hv, hb2⟩
 have HM := hI (M.below hb2)
 have HV : Hid (NsV w2 (fun b => w.heap.size ≤ b ∧ b < w2.heap.size) vN4 v) := hv.more fun b hb => by
  rcases hb with h | ⟨h1, h2⟩
  · exact h.elim
  · exact ⟨Nat.le_trans M.bel.size h1, h2⟩
 clear M hv hb2
 have d1 : w2.cell? ⟨w.heap.size, 1, none⟩ = some (.int .i64 n) := HM.out.cell 1
 have CM := hI (modO n 4 w2 HN.out.1 HN.out.2 (by decide) (by decide))
 have j0 := Int.emod_nonneg n (show (4 : Int) ≠ 0 by decide)
 have j1 := Int.emod_lt_of_pos n (show (0 : Int) < 4 by decide)
 obtain ⟨i, hi⟩ : ∃ i : Nat, n % 4 = i := ⟨(n % 4).toNat, by omega⟩
 have hvA : vAt n = vN4.getD i (uN ⟨#[120]⟩) := by unfold vAt; rw [hi]; rfl
 rw [hvA] at HP
 rw [hi] at CM j0 j1
 obtain ⟨Av, cv, rfl, hlc, hr⟩ := HV.out
 obtain ⟨bv, ov, rfl, hbv, hcell⟩ := hr (by decide)
 have hi4 : i < vN4.length := by show i < 4; omega
 obtain ⟨c0, c1⟩ := hcell i hi4
 have hgd : vN4.getD i (uN ⟨#[120]⟩) = vN4[i] := by rw [List.getD_eq_getElem?_getD, List.getElem?_eq_getElem hi4]; rfl
 rw [hgd] at HP
 have hi4' : i < 4 := hi4
 have hlc' : 4 ≤ cv := hlc
 change Hid (mtP PO _ (.var vN4[i])) at HP
 have VR := hI (varR vN4[i] w2 NoB)
 generalize vN4[i] = x at *
 have hlen : vN4.length = 4 := rfl
 rw [hlen]
 clear hlen hgd hi4 hcell hlc hr hvA hi HV
 go_wp2_with fail
 refine CM.out.mono ?_
 rintro e w3 ⟨rfl, rfl⟩
 go_wp2_with fail
 refine VR.out.mono ?_
 rintro e w4 ⟨cs, rfl, h4, hb4⟩
 have HB := hI (HM.out.below hb4)
 have O1 := hI h4.o11
 have HB1 := hI HB.out.b1
 have H4 : Hid (TmAt w4 (Upto w w4 NoB) (.var x) cs) := h4.more fun b hb => up3 HM.out.bel (Below.refl _ _) b hb
 clear h4 hb4 c0 c1 d1 VR CM
 go_wp2_with ((with_reducible refine storeTb (cs := cs) (.tmp 2) (.tmp 20) ?_ ?_ ?_ ?_ HB1.out ?_ ?_ ?_ ?_); rfl; rfl; rfl; rfl; rfl; exact O1.out.1; exact O1.out.2)
 exact retTb rfl rfl (HB1.out.set _) O1.out.1 ⟨_, ⟨_, rfl, TmAt.boxed H4.out HB1.out.nb _, below_setRowO HB.out.bel (by omega) _⟩, HP.out⟩
theorem madeCon (PO : Rw → Ob → Prop) (hPO : OMk PO) (k n : Int) (s : ByteArray) (l : List Rw) (A : Option Addr) (c : Nat) (w : World) (S : Nat → Prop) (hS : In S w) (hR : RawAt w S (.mk k n s l) [.int .i64 k, .int .i64 n, .string s, .slice A l.length c]) (hok : (Rw.mk k n s l).ok) (ht : Tab w) (hq : k % 5 = 2) (hk : I64 k) (hn : I64 n) :
 Calls Tryz.prog 20 #[.agg #[.int .i64 k, .int .i64 n, .string s, .slice A l.length c]] w (RetTP w (mtP PO (.mk k n s l))) := by
 have HK := hI hk
 have HN := hI hn
 have HQ := hI hq
 have HP : Hid (∀ o, PO (.mk n n s l) o → OkO (4 * (1 + Rw.cnts l)) o → mtP PO (.mk k n s l) (.con o)) := fun o h h' => by
  unfold mtP; rw [if_neg (by omega), if_pos hq]; exact ⟨o, rfl, h, h'⟩
 have CO : Hid (∀ W, Below w.heap.size w W → Calls Tryz.prog 21 #[.agg #[.int .i64 n, .int .i64 n, .string s, .slice A l.length c]] W (RetXP W (4 * (1 + Rw.cnts l) - 1) (PO (.mk n n s l)))) := fun W hb => by
  have h1 := hR.below hS hb
  have h2 : RawAt W S (.mk n n s l) [.int .i64 n, .int .i64 n, .string s, .slice A l.length c] := by
   unfold RawAt at h1 ⊢
   obtain ⟨A', c', e, _, h⟩ := h1
   refine ⟨A', c', ?_, hn, h⟩
   simp only [List.cons.injEq, and_true, true_and] at e ⊢
   exact e
  have h3 := hPO (.mk n n s l) _ W S (hS.later hb.size) h2 (by unfold Rw.ok at hok ⊢; exact hok) (ht.below hb)
  have e : (Rw.mk n n s l).cnt = 1 + Rw.cnts l := by unfold Rw.cnt; rfl
  rw [e] at h3
  exact h3
 clear hk hn hq hR hok ht hS hPO
 go_enter Tryz.func20, Tryz.ntmps20
 go_wp2_with fail
 have M := MdW.new w #[.int .i64 k, .int .i64 n, .string s, .slice A l.length c]
 refine (modO k 5 _ HK.out.1 HK.out.2 (by decide) (by decide)).mono ?_
 rintro e w1 ⟨rfl, rfl⟩
 generalize ((w.alloc (.cells #[.int .i64 k, .int .i64 n, .string s, .slice A l.length c] 40)).alloc (.cells #[.int .i64 0, .string ⟨#[]⟩, .string ⟨#[]⟩, .int .i64 0, .string ⟨#[]⟩, .string ⟨#[]⟩, .string ⟨#[]⟩, .string ⟨#[]⟩, .string ⟨#[]⟩, .slice none 0 0, .slice none 0 0] 45)) = W at M ⊢
 have hq := HQ.out
 have q0 := Int.emod_nonneg k (show (5 : Int) ≠ 0 by decide)
 clear HQ
 generalize k % 5 = q at hq q0 ⊢
 go_wp2_with fail
 refine (varsT 4 (by decide) W).mono ?_
 rintro e w2 ⟨v, rfl, hv, hb2⟩
 have HM := hI (M.below hb2)
 have HV : Hid (NsV w2 (fun b => w.heap.size ≤ b ∧ b < w2.heap.size) vN4 v) := hv.more fun b hb => by
  rcases hb with h | ⟨h1, h2⟩
  · exact h.elim
  · exact ⟨Nat.le_trans M.bel.size h1, h2⟩
 clear M hv hb2
 subst hq
 have d1 : w2.cell? ⟨w.heap.size, 1, none⟩ = some (.int .i64 n) := HM.out.cell 1
 have d2 : w2.cell? ⟨w.heap.size, 2, none⟩ = some (.string s) := HM.out.cell 2
 have d3 : w2.cell? ⟨w.heap.size, 3, none⟩ = some (.slice A l.length c) := HM.out.cell 3
 have CO2 := hI (CO.out w2 HM.out.bel)
 clear HV CO q0
 go_wp2_with fail
 refine CO2.out.mono ?_
 rintro e w3 ⟨o, p, rfl, hp, hb3, hok, hpo⟩
 have HB3 := hI (HM.out.below hb3)
 have CC := hI (conR o p w3 (Upto w2 w3 NoB) (fun b hb => upto_lt (NoB.in w2) hb3.size b hb) hp)
 have HPo := hI (HP.out o hpo (hok.le (by omega)))
 have HS3 := hI hb3
 unfold vO at CC ⊢
 obtain ⟨x0, x1, x2, x3, x4, x5, ea⟩ := cells7 o p
 rw [ea] at CC ⊢
 clear hok hpo hp d1 d2 d3 CO2 HP hb3 ea
 go_wp2_with fail
 refine CC.out.mono ?_
 rintro e w4 ⟨cs, rfl, h4, hb4⟩
 have HB := hI (HB3.out.below hb4)
 have O1 := hI h4.o11
 have HB1 := hI HB.out.b1
 have H4 : Hid (TmAt w4 (Upto w w4 NoB) (.con o) cs) := h4.more fun b hb => up3 HM.out.bel (Below.refl _ _) b (upto_two HS3.out.size hb4.size b hb)
 clear h4 hb4 CC
 go_wp2_with ((with_reducible refine storeTb (cs := cs) (.tmp 2) (.tmp 33) ?_ ?_ ?_ ?_ HB1.out ?_ ?_ ?_ ?_); rfl; rfl; rfl; rfl; rfl; exact O1.out.1; exact O1.out.2)
 exact retTb rfl rfl (HB1.out.set _) O1.out.1 ⟨_, ⟨_, rfl, TmAt.boxed H4.out HB1.out.nb _, below_setRowO HB.out.bel (by omega) _⟩, HPo.out⟩
def MtL (PO : Rw → Ob → Prop) (Y wr : World) (l : List Rw) (i : Nat) (v : Value) : Prop := ∃ ts xs, MkT NoB Y wr ts v xs ∧ ts.length = i ∧ mtsP PO l ts
theorem madeApp (PO : Rw → Ob → Prop) (k n : Int) (s : ByteArray) (l : List Rw) (A : Option Addr) (c : Nat) (w : World) (S : Nat → Prop) (hS : In S w) (hc : l.length ≤ c) (hL : l.length ≤ 6) (hA : 0 < l.length → ∃ b o, A = some ⟨b, o, none⟩ ∧ S b ∧ RawsAt w S b o l) (ht : Tab w) (hq : ¬ k % 5 < 2) (hq2 : k % 5 ≠ 2) (hk : I64 k) (hn : I64 n)
 (KI : ∀ i (hi : i < l.length), ∀ w cs, In S w → RawAt w S l[i] cs → Tab w → Calls Tryz.prog 20 #[.agg cs.toArray] w (RetTP w (mtP PO l[i]))) :
 Calls Tryz.prog 20 #[.agg #[.int .i64 k, .int .i64 n, .string s, .slice A l.length c]] w (RetTP w (mtP PO (.mk k n s l))) := by
 have HK := hI hk
 have HN := hI hn
 have HP : Hid (∀ ts, ts.length = min 3 l.length → mtsP PO l ts → mtP PO (.mk k n s l) (.app (fAt n) ts)) := fun ts h h' => by
  unfold mtP; rw [if_neg hq, if_neg hq2]; exact ⟨ts, rfl, h, h'⟩
 have hq5 := Int.emod_lt_of_pos k (show (0 : Int) < 5 by decide)
 have HQ : Hid (k % 5 = 3 ∨ k % 5 = 4) := (show _ ∨ _ by omega)
 have HT := hI ht
 have HS := hI hS
 have HA := hI hA
 have HI := hI KI
 obtain ⟨L, hLL⟩ : ∃ L, l.length = L := ⟨_, rfl⟩
 rw [hLL] at hL hc ⊢
 have HL := hI hLL
 clear hk hn hq hq2 hq5 hS hA KI ht hLL
 go_enter Tryz.func20, Tryz.ntmps20
 go_wp2_with fail
 have M := MdW.new w #[.int .i64 k, .int .i64 n, .string s, .slice A L c]
 refine (modO k 5 _ HK.out.1 HK.out.2 (by decide) (by decide)).mono ?_
 rintro e w1 ⟨rfl, rfl⟩
 generalize ((w.alloc (.cells #[.int .i64 k, .int .i64 n, .string s, .slice A L c] 40)).alloc (.cells #[.int .i64 0, .string ⟨#[]⟩, .string ⟨#[]⟩, .int .i64 0, .string ⟨#[]⟩, .string ⟨#[]⟩, .string ⟨#[]⟩, .string ⟨#[]⟩, .string ⟨#[]⟩, .slice none 0 0, .slice none 0 0] 45)) = W at M ⊢
 have hq := HQ.out
 clear HQ
 generalize k % 5 = q at hq ⊢
 go_wp2_with fail
 refine (varsT 4 (by decide) W).mono ?_
 rintro e w2 ⟨v, rfl, hv, hb2⟩
 have hbn := below_alT w2 (.cells #[.string ⟨#[102]⟩, .string ⟨#[103]⟩, .string ⟨#[104]⟩] 9)
 have HM := hI ((M.below hb2).below hbn)
 have hN : (w2.alloc (.cells #[.string ⟨#[102]⟩, .string ⟨#[103]⟩, .string ⟨#[104]⟩] 9)).heap[w2.heap.size]? = some (.cells #[.string ⟨#[102]⟩, .string ⟨#[103]⟩, .string ⟨#[104]⟩] 9 (0, 0)) := heap_alloc_new _ _
 have hNlt : w2.heap.size < (w2.alloc (.cells #[.string ⟨#[102]⟩, .string ⟨#[103]⟩, .string ⟨#[104]⟩] 9)).heap.size := by simp
 have HN2 := hI hN
 have HNL := hI hNlt
 obtain ⟨i0, hi0, hz0, hz1, hz2⟩ := infoT
 have HI0 := hI hi0
 have HZ0 := hI hz0
 have HZ1 := hI hz1
 have HZ2 := hI hz2
 have h0 : Hid (MtL PO (w2.alloc (.cells #[.string ⟨#[102]⟩, .string ⟨#[103]⟩, .string ⟨#[104]⟩] 9)) (w2.alloc (.cells #[.string ⟨#[102]⟩, .string ⟨#[103]⟩, .string ⟨#[104]⟩] 9)) l 0 (.slice none 0 0)) := ⟨[], [], MkT.start NoB _, rfl, mtsP_nil _ _⟩
 clear M hv hb2 hbn hN hNlt hi0 hz0 hz1 hz2
 obtain ⟨N, hNe⟩ : ∃ N, N = w2.heap.size := ⟨_, rfl⟩
 rcases hq with rfl | rfl
 all_goals
  go_wp2_with fail
  rw [← hNe] at HN2 HNL ⊢
  generalize w2.alloc (.cells #[.string ⟨#[102]⟩, .string ⟨#[103]⟩, .string ⟨#[104]⟩] 9) = Y at *
  clear hNe
  go_loopw [6, 7] (fun u v wr => ∃ (i : Nat) (sl : Value), sl = u ∧ i ≤ L ∧ i ≤ 3 ∧ v = .int .i64 (i : Int) ∧ Hid (MtL PO Y wr l i sl)) (fun _ v _ => L - (intOf v).toNat)
  case atStart => exact ⟨0, _, rfl, Nat.zero_le _, by decide, rfl, h0⟩
  case round =>
   clear h0
   obtain ⟨i, sl, rfl, hiL, hi3, rfl, hE⟩ := hrel
   obtain ⟨wo, rfl⟩ : ∃ wo : World, wo = wr := ⟨_, rfl⟩
   obtain ⟨ts, xs, hM, htl, hts⟩ := hE.out
   have hB := HM.out.below hM.bel
   have d1 : wo.cell? ⟨w.heap.size, 1, none⟩ = some (.int .i64 n) := hB.cell 1
   have d3 : wo.cell? ⟨w.heap.size, 3, none⟩ = some (.slice A L c) := hB.cell 3
   by_cases hlt : i < L
   · by_cases hlt3 : i < 3
     · have hil : i < l.length := by rw [HL.out]; exact hlt
       obtain ⟨b, o, hAe, hb, hrs⟩ := HA.out (by omega)
       rw [hAe] at d3
       clear hAe
       obtain ⟨cs, hcs, hcell⟩ := hrs.get hil
       have hcs' := hcs.below HS.out hB.bel
       have ha0 : b < w.heap.size := HS.out b hb
       obtain ⟨z0, z1, z2, z3, rfl⟩ : ∃ z0 z1 z2 z3, cs = [z0, z1, z2, z3] := by
        generalize l[i] = r at hcs
        cases r with
        | mk k n s l => unfold RawAt at hcs; obtain ⟨A, c, e, _⟩ := hcs; exact ⟨_, _, _, _, e⟩
       have l0 := (hB.bel.cell (p := ⟨b, o + i * 4 + 0, none⟩) ha0).trans (hcell 0 z0 rfl)
       have l1 := (hB.bel.cell (p := ⟨b, o + i * 4 + 1, none⟩) ha0).trans (hcell 1 z1 rfl)
       have l2 := (hB.bel.cell (p := ⟨b, o + i * 4 + 2, none⟩) ha0).trans (hcell 2 z2 rfl)
       have l3 := (hB.bel.cell (p := ⟨b, o + i * 4 + 3, none⟩) ha0).trans (hcell 3 z3 rfl)
       rw [Nat.add_zero] at l0
       have call := hI (HI.out i hil wo [z0, z1, z2, z3] (HS.out.later hB.bel.size) hcs' (HT.out.below hB.bel))
       have HSN : Hid (∀ t, mtP PO l[i] t → mtsP PO l (ts ++ [t])) := fun t h => by
        refine mtsP_snoc PO l ts t (by rw [htl]; exact hil) hts ?_
        simpa [htl] using h
       have HMK := hI hM
       have HTL := hI htl
       have hYs := hM.bel.size
       generalize l[i] = r at *
       clear hcell hcs hcs' hrs hB hM htl hts hE
       go_wp2_with fail
       refine call.out.mono ?_
       rintro e w3 ⟨t, ⟨cs3, rfl, h3, hb3⟩, hmt⟩
       have own3 := hI (HMK.out.own3 hb3 (.cells cs3.toArray 45))
       rw [HTL.out] at own3
       have HSTEP : Hid (∀ v' w4, w4.ownsRow Y.heap.size 45 11 v' (i + 1) (xs.flatten ++ cs3) → (w3.alloc (.cells cs3.toArray 45)).grownBy w4 sl.ownBlock → (v'.ownBlock = sl.ownBlock ∨ v'.ownBlock = some (w3.alloc (.cells cs3.toArray 45)).heap.size) → MtL PO Y w4 l (i + 1) v') :=
        fun v' w4 h4 hg hat => ⟨_, _, HMK.out.step (NoB.in _) hb3 _ h3 (by rw [HTL.out]; exact h4) hg hat, by rw [List.length_append, HTL.out]; rfl, HSN.out t hmt⟩
       have hone := h3.one
       have hnews : ∀ j u, cs3[j]? = some u → (w3.alloc (.cells cs3.toArray 45)).cell? ((⟨w3.heap.size, 0, none⟩ : Addr).add j) = some u := newsO (cs := cs3.toArray) rfl
       have hs3 : Y.heap.size ≤ (w3.alloc (.cells cs3.toArray 45)).heap.size := by have := hb3.size; simp; omega
       obtain ⟨y0, y1, y2, y3, y4, y5, y6, A3, c3, e3, _, _⟩ := h3.eleven
       subst e3
       have HONE := hI hone
       have HNEWS := hI hnews
       unfold vTm
       clear l0 l1 l2 l3 d1 d3 h3 hb3 call hone hnews hmt HSN HMK hYs
       go_wp2_with (at_builtin; refine wpList_append_own_at _ rfl (.tmp 46) (.tmp 53) _ rfl Y.heap.size 45 i0 _ 11 176 Tryz.underlying43 HI0.out HZ0.out HZ1.out HZ2.out rfl (by omega) sl i xs.flatten rfl own3.out ⟨w3.heap.size, 0, none⟩ 1 1 [.int .i64 t.kd, .string t.nm.1, .string t.nm.2, y0, y1, y2, y3, y4, y5, y6, .slice A3 t.args.length c3] rfl rfl HNEWS.out HONE.out (by simp only [maxLen]; omega) (by omega) hs3 ?_; intro v4 w4 hown4 hg4 hnil4 hat4; have hst := hI (HSTEP.out v4 w4 hown4 hg4 hat4); clear hown4 hg4 hnil4 hat4)
       go_roundw
       case rel => exact ⟨i + 1, _, rfl, by omega, by omega, by go_num, hst⟩
       case measure => simp [intOf]; omega
     · have hmin : i = min 3 L := by omega
       have hn3 : ¬ (i : Int) < 3 := by omega
       have CM := hI (modO n 3 wo HN.out.1 HN.out.2 (by decide) (by decide))
       have j0 := Int.emod_nonneg n (show (3 : Int) ≠ 0 by decide)
       have j1 := Int.emod_lt_of_pos n (show (0 : Int) < 3 by decide)
       obtain ⟨j, hj⟩ : ∃ j : Nat, n % 3 = j := ⟨(n % 3).toNat, by omega⟩
       have hfA : fAt n = uN (fNs.getD j ⟨#[102]⟩) := by unfold fAt; rw [hj]; rfl
       rw [hj] at CM j0 j1
       have hj3 : j < 3 := by omega
       have hNn := (hM.bel.block N HNL.out).trans HN2.out
       have cN : wo.cell? ⟨N, j, none⟩ = some (.string (fNs.getD j ⟨#[102]⟩)) := by
        rw [cell_of_row _ _ _ _ _ _ hNn]
        match j, hj3 with
        | 0, _ => rfl
        | 1, _ => rfl
        | 2, _ => rfl
       have HPt := hI (HP.out ts (by rw [htl, hmin, HL.out]) hts)
       rw [hfA] at HPt
       have CU := hI (userO (fNs.getD j ⟨#[102]⟩) wo)
       have hsl := hM.slice
       have hB1' := hB
       generalize fNs.getD j ⟨#[102]⟩ = nm at *
       have HSL := hI hsl
       have HB0 := hI hB
       have HMB := hI hM.bel
       clear hsl hB hM htl hts hE hB1' hNn hfA hj
       go_wp2_with fail
       refine CM.out.mono ?_
       rintro e w4 ⟨rfl, rfl⟩
       go_wp2_with fail
       refine CU.out.mono ?_
       rintro e w5 ⟨rfl, hb5⟩
       have HSL5 := HSL.out.below (fun b hb => upto_lt (NoB.in Y) HMB.out.size b hb) hb5
       have HIn5 : In (Upto Y wo NoB) w5 := fun b hb => Nat.lt_of_lt_of_le (upto_lt (NoB.in Y) HMB.out.size b hb) hb5.size
       have AC := hI (appR (uN nm) ts sl w5 (Upto Y wo NoB) HIn5 HSL5)
       have HB5 := hI (HB0.out.below hb5)
       have HS5 := hI hb5.size
       unfold uN at AC HPt
       clear HSL5 HIn5 hb5 HSL HB0 cN d1 d3 CU CM
       go_wp2_with fail
       refine AC.out.mono ?_
       rintro e w6 ⟨cs, rfl, h6, hb6⟩
       have HB := hI (HB5.out.below hb6)
       have O1 := hI h6.o11
       have HB1 := hI HB.out.b1
       have H6 : Hid (TmAt w6 (Upto w w6 NoB) (.app (BA [117, 115, 101, 114], nm) ts) cs) := h6.more fun b hb => by
        have h1 := HM.out.bel.size
        have h2 := HMB.out.size
        have h3 := HS5.out
        have h4 := hb6.size
        rcases hb with (h | ⟨h, h'⟩) | ⟨h, h'⟩
        · exact h.elim
        · exact .inr ⟨by omega, by omega⟩
        · exact .inr ⟨by omega, by omega⟩
       clear h6 hb6 AC
       go_wp2_with ((with_reducible refine storeTb (cs := cs) (.tmp 2) (.tmp 63) ?_ ?_ ?_ ?_ HB1.out ?_ ?_ ?_ ?_); rfl; rfl; rfl; rfl; rfl; exact O1.out.1; exact O1.out.2)
       exact retTb rfl rfl (HB1.out.set _) O1.out.1 ⟨_, ⟨_, rfl, TmAt.boxed H6.out HB1.out.nb _, below_setRowO HB.out.bel (by omega) _⟩, HPt.out⟩
   · have hmin : i = min 3 L := by omega
     have hnL : ¬ (i : Int) < L := by omega
     have CM := hI (modO n 3 wo HN.out.1 HN.out.2 (by decide) (by decide))
     have j0 := Int.emod_nonneg n (show (3 : Int) ≠ 0 by decide)
     have j1 := Int.emod_lt_of_pos n (show (0 : Int) < 3 by decide)
     obtain ⟨j, hj⟩ : ∃ j : Nat, n % 3 = j := ⟨(n % 3).toNat, by omega⟩
     have hfA : fAt n = uN (fNs.getD j ⟨#[102]⟩) := by unfold fAt; rw [hj]; rfl
     rw [hj] at CM j0 j1
     have hj3 : j < 3 := by omega
     have hNn := (hM.bel.block N HNL.out).trans HN2.out
     have cN : wo.cell? ⟨N, j, none⟩ = some (.string (fNs.getD j ⟨#[102]⟩)) := by
      rw [cell_of_row _ _ _ _ _ _ hNn]
      match j, hj3 with
      | 0, _ => rfl
      | 1, _ => rfl
      | 2, _ => rfl
     have HPt := hI (HP.out ts (by rw [htl, hmin, HL.out]) hts)
     rw [hfA] at HPt
     have CU := hI (userO (fNs.getD j ⟨#[102]⟩) wo)
     have hsl := hM.slice
     have hB1' := hB
     generalize fNs.getD j ⟨#[102]⟩ = nm at *
     have HSL := hI hsl
     have HB0 := hI hB
     have HMB := hI hM.bel
     clear hsl hB hM htl hts hE hB1' hNn hfA hj
     go_wp2_with fail
     refine CM.out.mono ?_
     rintro e w4 ⟨rfl, rfl⟩
     go_wp2_with fail
     refine CU.out.mono ?_
     rintro e w5 ⟨rfl, hb5⟩
     have HSL5 := HSL.out.below (fun b hb => upto_lt (NoB.in Y) HMB.out.size b hb) hb5
     have HIn5 : In (Upto Y wo NoB) w5 := fun b hb => Nat.lt_of_lt_of_le (upto_lt (NoB.in Y) HMB.out.size b hb) hb5.size
     have AC := hI (appR (uN nm) ts sl w5 (Upto Y wo NoB) HIn5 HSL5)
     have HB5 := hI (HB0.out.below hb5)
     have HS5 := hI hb5.size
     unfold uN at AC HPt
     clear HSL5 HIn5 hb5 HSL HB0 cN d1 d3 CU CM
     go_wp2_with fail
     refine AC.out.mono ?_
     rintro e w6 ⟨cs, rfl, h6, hb6⟩
     have HB := hI (HB5.out.below hb6)
     have O1 := hI h6.o11
     have HB1 := hI HB.out.b1
     have H6 : Hid (TmAt w6 (Upto w w6 NoB) (.app (BA [117, 115, 101, 114], nm) ts) cs) := h6.more fun b hb => by
      have h1 := HM.out.bel.size
      have h2 := HMB.out.size
      have h3 := HS5.out
      have h4 := hb6.size
      rcases hb with (h | ⟨h, h'⟩) | ⟨h, h'⟩
      · exact h.elim
      · exact .inr ⟨by omega, by omega⟩
      · exact .inr ⟨by omega, by omega⟩
     clear h6 hb6 AC
     go_wp2_with ((with_reducible refine storeTb (cs := cs) (.tmp 2) (.tmp 63) ?_ ?_ ?_ ?_ HB1.out ?_ ?_ ?_ ?_); rfl; rfl; rfl; rfl; rfl; exact O1.out.1; exact O1.out.2)
     exact retTb rfl rfl (HB1.out.set _) O1.out.1 ⟨_, ⟨_, rfl, TmAt.boxed H6.out HB1.out.nb _, below_setRowO HB.out.bel (by omega) _⟩, HPt.out⟩
theorem madeT (PO : Rw → Ob → Prop) (hPO : OMk PO) : ∀ (r : Rw) (cs : List Value) (w : World) (S : Nat → Prop), In S w → RawAt w S r cs → r.ok → Tab w → Calls Tryz.prog 20 #[.agg cs.toArray] w (RetTP w (mtP PO r)) := by
 intro r
 induction r using Rw.ind with
 | h k n s l ih =>
  intro cs w S hS h hok ht
  have h' := h
  unfold RawAt at h
  obtain ⟨A, c, rfl, hk, hn, hc, hcm, hA⟩ := h
  have hok' := hok
  unfold Rw.ok at hok
  obtain ⟨hs, hl, hoks⟩ := hok
  by_cases q1 : k % 5 < 2
  · exact madeVar PO k n s l A c w q1 hk hn
  · by_cases q2 : k % 5 = 2
    · exact madeCon PO hPO k n s l A c w S hS h' hok' ht q2 hk hn
    · exact madeApp PO k n s l A c w S hS hc hl hA ht q1 q2 hk hn fun i hi w cs hS hr ht => ih l[i] (List.getElem_mem hi) cs w S hS hr (Rw.oks_mem hoks _ (List.getElem_mem hi)) ht
theorem infoA : ∃ i, Tryz.prog.info? 64 = some i ∧ i.zero = some (.agg #[.string ⟨#[]⟩, .string ⟨#[]⟩, .int .i64 0, .string ⟨#[]⟩, .string ⟨#[]⟩, .int .i64 0, .string ⟨#[]⟩, .string ⟨#[]⟩, .string ⟨#[]⟩, .string ⟨#[]⟩, .string ⟨#[]⟩, .slice none 0 0, .slice none 0 0]) ∧ i.size = 13 ∧ i.bytes = 208 := info_of (P := Tryz.prog) (t := 64) (z := .agg #[.string ⟨#[]⟩, .string ⟨#[]⟩, .int .i64 0, .string ⟨#[]⟩, .string ⟨#[]⟩, .int .i64 0, .string ⟨#[]⟩, .string ⟨#[]⟩, .string ⟨#[]⟩, .string ⟨#[]⟩, .string ⟨#[]⟩, .slice none 0 0, .slice none 0 0]) (a := 13) (b := 208) (by kernel_rfl)
structure MkA (S0 : Nat → Prop) (W wr : World) (l : List (Nm × Tm)) (v : Value) (xs : List (List Value)) : Prop where
 len : xs.length = l.length
 own : wr.ownsRow W.heap.size 64 13 v l.length xs.flatten
 tms : ∀ i (hi : i < l.length) (hx : i < xs.length), ∃ cs, xs[i] = Value.string l[i].1.1 :: Value.string l[i].1.2 :: cs ∧ TmAt wr (fun b => (S0 b ∨ W.heap.size ≤ b) ∧ b < wr.heap.size ∧ v.ownBlock ≠ some b) l[i].2 cs
 bel : Below W.heap.size W wr
theorem MkA.start (S0 : Nat → Prop) (W : World) : MkA S0 W W [] (.slice none 0 0) [] :=
 ⟨rfl, ⟨rfl, .inl ⟨rfl, rfl⟩⟩, fun i hi => by simp at hi, Below.refl _ _⟩
theorem MkA.below {S0 : Nat → Prop} {W wo w3 : World} {l : List (Nm × Tm)} {v : Value} {xs : List (List Value)} (h : MkA S0 W wo l v xs) (hb : Below wo.heap.size wo w3) : MkA S0 W w3 l v xs :=
 ⟨h.len, own_keep h.own fun g hg => hb.block g (own_lt h.own g hg).2, fun i hi hx => by
  obtain ⟨cs, e, k⟩ := h.tms i hi hx
  exact ⟨cs, e, TmAt.keep (fun b hb' => ⟨hb'.1, Nat.lt_of_lt_of_le hb'.2.1 hb.size, hb'.2.2⟩) (fun b hb' => hb.block b hb'.2.1) _ _ k⟩, h.bel.trans (hb.mono h.bel.size)⟩
theorem MkA.step {S0 : Nat → Prop} {W wo w3 w4 : World} {l : List (Nm × Tm)} {v v' : Value} {xs : List (List Value)} (h : MkA S0 W wo l v xs) (hS : In S0 W) (hb : Below wo.heap.size wo w3) (x : Obj) {n : Nm} {t : Tm} {cs : List Value}
 (hp : TmAt w3 (Upto wo w3 S0) t cs) (h4 : w4.ownsRow W.heap.size 64 13 v' (l.length + 1) (xs.flatten ++ Value.string n.1 :: Value.string n.2 :: cs)) (hg : (w3.alloc x).grownBy w4 v.ownBlock) (hat : v'.ownBlock = v.ownBlock ∨ v'.ownBlock = some (w3.alloc x).heap.size) :
 MkA S0 W w4 (l ++ [(n, t)]) v' (xs ++ [Value.string n.1 :: Value.string n.2 :: cs]) := by
 have hown := own_lt h.own
 have h34 := hg.size
 have hs3 := hb.size
 have hsW := h.bel.size
 simp only [World.size_alloc] at h34 hat
 have blk : ∀ b, b < w3.heap.size → v.ownBlock ≠ some b → w4.heap[b]? = w3.heap[b]? := fun b hb' hne =>
  (hg.block b (by simp; omega) (fun e => hne e.symm)).trans (Below.heap_alloc _ _ _ hb')
 have hne' : ∀ b, b < w3.heap.size → v.ownBlock ≠ some b → v'.ownBlock ≠ some b := fun b hb' hne e => by
  rcases hat with h0 | h0
  · exact hne (h0.symm.trans e)
  · rw [h0] at e
    have : w3.heap.size + 1 = b := by injection e
    omega
 refine ⟨by simp [h.len], by rw [List.flatten_append]; simpa using h4, fun i hi hx => ?_, ?_⟩
 · by_cases hil : i < l.length
   · have hix : i < xs.length := by rw [h.len]; exact hil
     rw [List.getElem_append_left hil, List.getElem_append_left hix]
     obtain ⟨cs0, e0, k0⟩ := h.tms i hil hix
     refine ⟨cs0, e0, TmAt.keep (fun b hb' => ⟨hb'.1, by omega, hne' b (by omega) hb'.2.2⟩) (fun b hb' => ?_) _ _ k0⟩
     rw [blk b (by omega) hb'.2.2, hb.block b hb'.2.1]
   · have hie : i = l.length := by simp at hi; omega
     subst hie
     have e2 : (xs ++ [Value.string n.1 :: Value.string n.2 :: cs])[l.length] = Value.string n.1 :: Value.string n.2 :: cs := by simp [← h.len]
     have e1 : (l ++ [(n, t)])[l.length] = (n, t) := by simp
     rw [e1, e2]
     have hn : ∀ b, Upto wo w3 S0 b → (S0 b ∨ W.heap.size ≤ b) ∧ b < w3.heap.size ∧ v.ownBlock ≠ some b := fun b hb' => by
      rcases hb' with h0 | h0
      · have := hS b h0
        exact ⟨.inl h0, by omega, fun e => by have := (hown b e).1; omega⟩
      · exact ⟨.inr (by omega), h0.2, fun e => by have := (hown b e).2; omega⟩
     refine ⟨cs, rfl, TmAt.keep (fun b hb' => ?_) (fun b hb' => ?_) _ _ hp⟩
     · obtain ⟨h0, h1, h2⟩ := hn b hb'
       exact ⟨h0, by omega, hne' b h1 h2⟩
     · obtain ⟨h0, h1, h2⟩ := hn b hb'
       exact blk b h1 h2
 · have hb3 := h.bel.trans (hb.mono hsW)
   have hba := Below.alloc hb3 (by omega) x
   exact hba.grown hg hba.size (fun k hk => by have := (hown k hk).1; omega)
theorem MkA.step2 {S0 : Nat → Prop} {W wo w3 w4 : World} {l : List (Nm × Tm)} {v v' : Value} {xs : List (List Value)} (h : MkA S0 W wo l v xs) (hS : In S0 W) (hb : Below wo.heap.size wo w3) {n : Nm} {t : Tm} {cs : List Value}
 (hp : TmAt w3 (Upto wo w3 S0) t cs) (h4 : w4.ownsRow W.heap.size 64 13 v' (l.length + 1) (xs.flatten ++ Value.string n.1 :: Value.string n.2 :: cs)) (hg : w3.grownBy w4 v.ownBlock) (hat : v'.ownBlock = v.ownBlock ∨ v'.ownBlock = some w3.heap.size) :
 MkA S0 W w4 (l ++ [(n, t)]) v' (xs ++ [Value.string n.1 :: Value.string n.2 :: cs]) := by
 have hown := own_lt h.own
 have h34 := hg.size
 have hs3 := hb.size
 have hsW := h.bel.size
 have blk : ∀ b, b < w3.heap.size → v.ownBlock ≠ some b → w4.heap[b]? = w3.heap[b]? := fun b hb' hne =>
  hg.block b (by omega) (fun e => hne e.symm)
 have hne' : ∀ b, b < w3.heap.size → v.ownBlock ≠ some b → v'.ownBlock ≠ some b := fun b hb' hne e => by
  rcases hat with h0 | h0
  · exact hne (h0.symm.trans e)
  · rw [h0] at e
    have : w3.heap.size = b := by injection e
    omega
 refine ⟨by simp [h.len], by rw [List.flatten_append]; simpa using h4, fun i hi hx => ?_, ?_⟩
 · by_cases hil : i < l.length
   · have hix : i < xs.length := by rw [h.len]; exact hil
     rw [List.getElem_append_left hil, List.getElem_append_left hix]
     obtain ⟨cs0, e0, k0⟩ := h.tms i hil hix
     refine ⟨cs0, e0, TmAt.keep (fun b hb' => ⟨hb'.1, by omega, hne' b (by omega) hb'.2.2⟩) (fun b hb' => ?_) _ _ k0⟩
     rw [blk b (by omega) hb'.2.2, hb.block b hb'.2.1]
   · have hie : i = l.length := by simp at hi; omega
     subst hie
     have e2 : (xs ++ [Value.string n.1 :: Value.string n.2 :: cs])[l.length] = Value.string n.1 :: Value.string n.2 :: cs := by simp [← h.len]
     have e1 : (l ++ [(n, t)])[l.length] = (n, t) := by simp
     rw [e1, e2]
     have hn : ∀ b, Upto wo w3 S0 b → (S0 b ∨ W.heap.size ≤ b) ∧ b < w3.heap.size ∧ v.ownBlock ≠ some b := fun b hb' => by
      rcases hb' with h0 | h0
      · have := hS b h0
        exact ⟨.inl h0, by omega, fun e => by have := (hown b e).1; omega⟩
      · exact ⟨.inr (by omega), h0.2, fun e => by have := (hown b e).2; omega⟩
     refine ⟨cs, rfl, TmAt.keep (fun b hb' => ?_) (fun b hb' => ?_) _ _ hp⟩
     · obtain ⟨h0, h1, h2⟩ := hn b hb'
       exact ⟨h0, by omega, hne' b h1 h2⟩
     · obtain ⟨h0, h1, h2⟩ := hn b hb'
       exact blk b h1 h2
 · have hb3 := h.bel.trans (hb.mono hsW)
   exact hb3.grown hg hb3.size (fun k hk => by have := (hown k hk).1; omega)
theorem flat13 : ∀ (xs : List (List Value)) (i j : Nat) (u : Value) (hi : i < xs.length), (∀ x ∈ xs, x.length = 13) → xs[i][j]? = some u → xs.flatten[i * 13 + j]? = some u
 | x :: xs, 0, j, u, _, hl, h => by
  rw [Nat.zero_mul, Nat.zero_add, List.flatten_cons]
  have hj : j < x.length := by
   rcases Nat.lt_or_ge j x.length with h1 | h1
   · exact h1
   · rw [List.getElem_cons_zero, List.getElem?_eq_none h1] at h; cases h
  rw [List.getElem?_append_left hj]
  exact h
 | x :: xs, i + 1, j, u, hi, hl, h => by
  have hx := hl x (by simp)
  rw [List.flatten_cons, List.getElem?_append_right (by rw [hx]; omega), hx, show (i + 1) * 13 + j - 13 = i * 13 + j from by omega]
  exact flat13 xs i j u (by simpa using hi) (fun y hy => hl y (by simp [hy])) (by simpa using h)
theorem MkA.l13 {S0 : Nat → Prop} {W wr : World} {l : List (Nm × Tm)} {v : Value} {xs : List (List Value)} (h : MkA S0 W wr l v xs) : ∀ x ∈ xs, x.length = 13 := fun x hx => by
 obtain ⟨i, hi, rfl⟩ := List.getElem_of_mem hx
 obtain ⟨cs, e, k⟩ := h.tms i (by rw [← h.len]; exact hi) hi
 rw [e]; simp [k.length]
theorem MkA.slice {S0 : Nat → Prop} {W wr : World} {l : List (Nm × Tm)} {v : Value} {xs : List (List Value)} (h : MkA S0 W wr l v xs) : AsV wr (Upto W wr S0) l v := by
 have ho := own_lt h.own
 have h13 := h.l13
 rcases h.own.2 with ⟨rfl, e⟩ | ⟨g, cap, cur, rfl, hb, hh, hn, _, hcs, hcur⟩
 · exact ⟨none, 0, by rw [e], by omega, fun h0 => by omega⟩
 · refine ⟨_, cap, rfl, hn, fun _ => ⟨g, 0, rfl, ⟨.inr (ho g rfl), _, _, hh⟩, fun i hi => ?_⟩⟩
   have hix : i < xs.length := by rw [h.len]; exact hi
   obtain ⟨cs, e, k⟩ := h.tms i hi hix
   refine ⟨cs, k.more fun b hb' => ?_, fun j u hj => ?_⟩
   · rcases hb'.1 with h0 | h0
     · exact .inl h0
     · exact .inr ⟨h0, hb'.2.1⟩
   · rw [← e] at hj
     have hf := flat13 xs i j u hix h13 hj
     rw [Nat.zero_add, cell_of_row _ _ _ _ _ _ hh]
     rw [← hcur] at hf
     rw [List.getElem?_take] at hf
     split at hf
     · simpa using hf
     · cases hf
def Rw.nn : Rw → Int
 | .mk _ n _ _ => n
def asP (PO : Rw → Ob → Prop) : List Rw → List (Nm × Tm) → Prop
 | _, [] => True
 | [], _ :: _ => False
 | r :: rs, a :: s => a.1 = vAt r.nn ∧ mtP PO r a.2 ∧ asP PO rs s
theorem asP_nil (PO : Rw → Ob → Prop) (l : List Rw) : asP PO l [] := by cases l <;> (unfold asP; trivial)
theorem asP_snoc (PO : Rw → Ob → Prop) : ∀ (l : List Rw) (s : List (Nm × Tm)) (a : Nm × Tm) (hi : s.length < l.length), asP PO l s → a.1 = vAt l[s.length].nn → mtP PO l[s.length] a.2 → asP PO l (s ++ [a])
 | r :: rs, [], a, _, _, h, h' => by
  show asP PO (r :: rs) [a]
  unfold asP
  exact ⟨h, h', asP_nil _ _⟩
 | r :: rs, x :: s, a, hi, h, h', h'' => by
  unfold asP at h
  show asP PO (r :: rs) (x :: (s ++ [a]))
  unfold asP
  exact ⟨h.1, h.2.1, asP_snoc PO rs s a (by simpa using hi) h.2.2 h' h''⟩
theorem asP_det {PO : Rw → Ob → Prop} (hP : ∀ r o o', PO r o → PO r o' → o = o') : ∀ (l : List Rw) (s s' : List (Nm × Tm)), s.length = s'.length → asP PO l s → asP PO l s' → s = s'
 | _, [], [], _, _, _ => rfl
 | _, [], _ :: _, e, _, _ => by simp at e
 | _, _ :: _, [], e, _, _ => by simp at e
 | [], _ :: _, _ :: _, _, h, _ => by unfold asP at h; exact h.elim
 | r :: rs, (x, t) :: s, (x', t') :: s', e, h, h' => by
  unfold asP at h h'
  obtain ⟨rfl, h1, h2⟩ := h
  obtain ⟨e', h1', h2'⟩ := h'
  rw [asP_det hP rs s s' (by simpa using e) h2 h2', mtP_det hP r t t' h1 h1']
  have e'' : x' = vAt r.nn := e'
  rw [e'']
def AsL (PO : Rw → Ob → Prop) (Y wr : World) (l : List Rw) (i : Nat) (v : Value) : Prop := ∃ s xs, MkA NoB Y wr s v xs ∧ s.length = i ∧ asP PO l s
def RetAP (w : World) (P : List (Nm × Tm) → Prop) (e : Ending) (w' : World) : Prop := ∃ s v, e = .returned v ∧ AsV w' (Upto w w' NoB) s v ∧ Below w.heap.size w w' ∧ P s
def LAP (w0 : World) (x : Nm) (P : Tm → Prop) : Lv := fun v _ _ w => w0.heap.size ≤ w.heap.size ∧ ∃ t cs, v = .agg (Value.string x.1 :: Value.string x.2 :: cs).toArray ∧ TmAt w (Upto w0 w NoB) t cs ∧ P t
theorem mLAP (w0 : World) (x : Nm) (P : Tm → Prop) : Mon (LAP w0 x P) := fun _ _ _ _ _ ⟨h0, t, cs, h, k, hp⟩ _ hb => ⟨Nat.le_trans h0 hb.size, t, cs, h, TmAt.keep (fun b hb' => upto_more hb.size b hb') (fun b hb' => hb.block b (upto_lt (NoB.in _) h0 b hb')) _ _ k, hp⟩
def LAS (w0 : World) (x : Nm) (P : Tm → Prop) : Lv := fun v lo hi w => w0.heap.size ≤ w.heap.size ∧ ∃ t cs, v = .slice (some ⟨lo, 0, none⟩) 1 1 ∧ w.heap[lo]? = some (.cells (Value.string x.1 :: Value.string x.2 :: cs).toArray 64 (0, 0)) ∧ lo < hi ∧ TmAt w (Upto w0 w NoB) t cs ∧ P t
theorem mLAS (w0 : World) (x : Nm) (P : Tm → Prop) : Mon (LAS w0 x P) := fun _ _ _ _ _ ⟨h0, t, cs, h, hr, hl, k, hp⟩ hm hb => ⟨Nat.le_trans h0 hb.size, t, cs, h, (hb.block _ (by omega)).trans hr, hl, TmAt.keep (fun b hb' => upto_more hb.size b hb') (fun b hb' => hb.block b (upto_lt (NoB.in _) h0 b hb')) _ _ k, hp⟩
theorem news_at {w : World} {cs : Array Value} {t : TypeId} {b : Nat} (hb : w.heap[b]? = some (.cells cs t (0, 0))) : ∀ j u, cs.toList[j]? = some u → w.cell? ((⟨b, 0, none⟩ : Addr).add j) = some u := by
 intro j u hj
 have e : (Addr.add ⟨b, 0, none⟩ j) = ⟨b, j, none⟩ := by
  unfold Addr.add
  split
  · rename_i h; rw [h]
  · simp
 rw [e, cell_of_row _ _ _ _ _ _ hb]
 simpa using hj
def LTP (w0 : World) (P : Tm → Prop) : Lv := fun v _ _ w => w0.heap.size ≤ w.heap.size ∧ ∃ t cs, v = vTm cs ∧ TmAt w (Upto w0 w NoB) t cs ∧ P t
theorem mLTP (w0 : World) (P : Tm → Prop) : Mon (LTP w0 P) := fun _ _ _ _ _ ⟨h0, t, cs, h, k, hp⟩ _ hb => ⟨Nat.le_trans h0 hb.size, t, cs, h, TmAt.keep (fun b hb' => upto_more hb.size b hb') (fun b hb' => hb.block b (upto_lt (NoB.in _) h0 b hb')) _ _ k, hp⟩
theorem assignsT (PO : Rw → Ob → Prop) (hPO : OMk PO) (l : List Rw) (A : Option Addr) (c : Nat) (w : World) (S : Nat → Prop) (hS : In S w) (hL : l.length ≤ 8) (hc : l.length ≤ c) (ht : Tab w)
 (hA : 0 < l.length → ∃ b o, A = some ⟨b, o, none⟩ ∧ S b ∧ RawsAt w S b o l) (hok : ∀ r ∈ l, r.ok) :
 Calls Tryz.prog 39 #[.slice A l.length c] w (RetAP w (fun s => s.length = l.length ∧ asP PO l s)) := by
 have HI : Hid (∀ i (hi : i < l.length), ∀ w cs, In S w → RawAt w S l[i] cs → Tab w → Calls Tryz.prog 20 #[.agg cs.toArray] w (RetTP w (mtP PO l[i]))) := fun i hi w cs hS hr ht => madeT PO hPO l[i] cs w S hS hr (hok _ (List.getElem_mem hi)) ht
 have HT := hI ht
 have HS := hI hS
 have HA := hI hA
 clear ht hS hA hok
 obtain ⟨L, hLL⟩ : ∃ L, l.length = L := ⟨_, rfl⟩
 rw [hLL] at hL hc ⊢
 have HL := hI hLL
 clear hLL
 have HC := hI hc
 go_enter Tryz.func39, Tryz.ntmps39
 go_wp2_with fail
 refine (varsT 4 (by decide) w).mono ?_
 rintro e Y ⟨v, rfl, hv, hb2⟩
 have e4 : vN4.take 4 = vN4 := rfl
 rw [e4] at hv
 obtain ⟨Av, cv, rfl, hlc, hr⟩ := hv
 obtain ⟨bv, ov, rfl, hbv, hcell⟩ := hr (by decide)
 have hlen : vN4.length = 4 := rfl
 rw [hlen] at hlc ⊢
 have HLC := hI hlc
 have HCV := hI hcell
 have HBV : Hid (bv < Y.heap.size) := upto_lt (NoB.in w) hb2.size bv hbv.1
 have HBY := hI hb2
 obtain ⟨i0, hi0, hz0, hz1, hz2⟩ := infoA
 have HI0 := hI hi0
 have HZ0 := hI hz0
 have HZ1 := hI hz1
 have HZ2 := hI hz2
 have h0 : Hid (AsL PO Y Y l 0 (.slice none 0 0)) := ⟨[], [], MkA.start NoB _, rfl, asP_nil _ _⟩
 have HQ : Hid (∀ wo sl, AsL PO Y wo l L sl → RetAP w (fun s => s.length = L ∧ asP PO l s) (.returned sl) wo) := fun wo sl ⟨s, xs, hm, hl, hs⟩ =>
  ⟨s, sl, rfl, hm.slice.more fun b hb => by
   rcases hb with h | ⟨h, h'⟩
   · exact h.elim
   · exact .inr ⟨Nat.le_trans hb2.size h, h'⟩, hb2.trans (hm.bel.mono hb2.size), hl, hs⟩
 clear hi0 hz0 hz1 hz2 hr hbv hcell hb2 hlc hlen
 go_wp2_with fail
 go_loopw [4, 5] (fun u v wr => ∃ (i : Nat) (sl : Value), sl = u ∧ i ≤ L ∧ v = .int .i64 (i : Int) ∧ Hid (AsL PO Y wr l i sl)) (fun _ v _ => L - (intOf v).toNat)
 case atStart => exact ⟨0, _, rfl, Nat.zero_le _, rfl, h0⟩
 case round =>
  clear h0
  obtain ⟨i, sl, rfl, hiL, rfl, hE⟩ := hrel
  obtain ⟨wo, rfl⟩ : ∃ wo : World, wo = wr := ⟨_, rfl⟩
  by_cases hlt : i < L
  · obtain ⟨ss, xs, hM, htl, hts⟩ := hE.out
    have hB := HBY.out.trans (hM.bel.mono HBY.out.size)
    have hil : i < l.length := by rw [HL.out]; exact hlt
    obtain ⟨b, o, rfl, hb, hrs⟩ := HA.out (by omega)
    obtain ⟨cs, hcs, hcell⟩ := hrs.get hil
    have hcs' := hcs.below HS.out hB
    have ha0 : b < w.heap.size := HS.out b hb
    obtain ⟨z0, n, z2, z3, rfl, hnn, hn64⟩ : ∃ z0 n z2 z3, cs = [z0, .int .i64 n, z2, z3] ∧ l[i].nn = n ∧ I64 n := by
     generalize l[i] = r at hcs
     cases r with
     | mk k n s l => unfold RawAt at hcs; obtain ⟨A, c, e, _, hn, _⟩ := hcs; exact ⟨_, _, _, _, e, rfl, hn⟩
    have l0 := (hB.cell (p := ⟨b, o + i * 4 + 0, none⟩) ha0).trans (hcell 0 z0 rfl)
    have L1 := hI ((hB.cell (p := ⟨b, o + i * 4 + 1, none⟩) ha0).trans (hcell 1 _ rfl))
    have L2 := hI ((hB.cell (p := ⟨b, o + i * 4 + 2, none⟩) ha0).trans (hcell 2 z2 rfl))
    have L3 := hI ((hB.cell (p := ⟨b, o + i * 4 + 3, none⟩) ha0).trans (hcell 3 z3 rfl))
    rw [Nat.add_zero] at l0
    have L0 := hI l0
    have HLB : Hid (b < wo.heap.size) := Nat.lt_of_lt_of_le ha0 hB.size
    have HLV : Hid (bv < wo.heap.size) := Nat.lt_of_lt_of_le HBV.out hM.bel.size
    have CALL : Hid (∀ X, Below wo.heap.size wo X → Calls Tryz.prog 20 #[.agg #[z0, .int .i64 n, z2, z3]] X (RetTP X (mtP PO l[i]))) := fun X hX => by
     have hc := hB.trans (hX.mono hB.size)
     exact HI.out i hil X [z0, .int .i64 n, z2, z3] (HS.out.later hc.size) (hcs.below HS.out hc) (HT.out.below hc)
    have hm4 : ∀ X, Calls Tryz.prog 46 #[.int .i64 n, .int .i64 4] X (fun e w' => e = .returned (.int .i64 (n % 4)) ∧ X = w') := fun X => modO n 4 X hn64.1 hn64.2 (by decide) (by decide)
    have j0 := Int.emod_nonneg n (show (4 : Int) ≠ 0 by decide)
    have j1 := Int.emod_lt_of_pos n (show (0 : Int) < 4 by decide)
    obtain ⟨j, hj⟩ : ∃ j : Nat, n % 4 = j := ⟨(n % 4).toNat, by omega⟩
    rw [hj] at hm4 j1
    have hj4 : j < 4 := by omega
    have hj5 : j < vN4.length := hj4
    have HJ4 : Hid ((j : Int) < 4) := (by show _ < _; omega)
    obtain ⟨x, hx⟩ : ∃ x, vAt n = x := ⟨_, rfl⟩
    have hvx : vN4[j]'hj5 = x := by
     rw [← hx]
     unfold vAt
     rw [hj]
     show vN4[j]'hj5 = vN4.getD j _
     rw [List.getD_eq_getElem?_getD, List.getElem?_eq_getElem hj5]
     rfl
    obtain ⟨x0, x1⟩ := HCV.out j hj5
    rw [hvx] at x0 x1
    have X0 := hI ((hM.bel.cell (p := ⟨bv, ov + j * 2, none⟩) HBV.out).trans x0)
    have X1 := hI ((hM.bel.cell (p := ⟨bv, ov + j * 2 + 1, none⟩) HBV.out).trans x1)
    have MOC := hI hm4
    have HSN : Hid (∀ t, mtP PO l[i] t → asP PO l (ss ++ [(x, t)])) := fun t h => by
     refine asP_snoc PO l ss (x, t) (by rw [htl]; exact hil) hts ?_ ?_
     · simp only [htl]; rw [hnn]; exact hx.symm
     · simpa [htl] using h
    have HMK := hI hM
    have HTL := hI htl
    have hYs := hM.bel.size
    have hcv := HLC.out
    generalize l[i] = r at *
    clear hcell hcs hcs' hrs hB hM htl hts hE l0 x0 x1 hvx hx hj hm4 j0 j1
    go_wp2_with fail
    refine wp_region_grow (l := _) 17 (by kernel_rfl) (by kernel_rfl) (fun i => [13, 14, 15, 16, 17, 18, 19, 20, 21, 22, 23, 24, 25, 26, 27, 28, 29].getD i 0) (LR [LV (sl), LV (.slice (some ⟨bv, ov, none⟩) 4 cv), LV (.slice (some ⟨b, o, none⟩) L c), LV (.int .i64 (i : Int)), LV (.pointer (some ⟨b, o + i * 4, none⟩)), LV (.pointer (some ⟨b, o + i * 4 + 1, none⟩)), LV (.int .i64 n), LV (.int .i64 (j : Int)), LV (.pointer (some ⟨bv, ov + j * 2, none⟩)), LV (.agg #[.string x.1, .string x.2]), LV (.slice (some ⟨b, o, none⟩) L c), LV (.int .i64 (i : Int)), LV (.pointer (some ⟨b, o + i * 4, none⟩)), LV (.agg #[z0, .int .i64 n, z2, z3]), LTP wo (mtP PO r), LAP wo x (mtP PO r), LAS wo x (mtP PO r)]) (LR_mono ⟨mLV _, mLV _, mLV _, mLV _, mLV _, mLV _, mLV _, mLV _, mLV _, mLV _, mLV _, mLV _, mLV _, mLV _, mLTP wo _, mLAP wo _ _, mLAS wo _ _, trivial⟩) (by
     intro i j hi hj h
     exact inj_getD [13, 14, 15, 16, 17, 18, 19, 20, 21, 22, 23, 24, 25, 26, 27, 28, 29] (by decide) i j hi hj h) (by
     intro i hi
     exact lt_getD 32 [13, 14, 15, 16, 17, 18, 19, 20, 21, 22, 23, 24, 25, 26, 27, 28, 29] (by decide) i hi) ?step ?done
    case step =>
     intro ii hii a w9 v lo hi' hoth hb hw
     have sl4 : a.tmps[4]? = some (sl) := (hoth 4 (fun j hj => ne_getD 4 _ (by decide) j hj)).trans rfl
     have sl3 : a.tmps[3]? = some (.slice (some ⟨bv, ov, none⟩) 4 cv) := (hoth 3 (fun j hj => ne_getD 3 _ (by decide) j hj)).trans rfl
     have sl0 : a.tmps[0]? = some (.slice (some ⟨b, o, none⟩) L c) := (hoth 0 (fun j hj => ne_getD 0 _ (by decide) j hj)).trans rfl
     have sl5 : a.tmps[5]? = some (.int .i64 (i : Int)) := (hoth 5 (fun j hj => ne_getD 5 _ (by decide) j hj)).trans rfl
     match ii, hii with
     | 0, _ =>
      exact gw_move rfl (wanted_plain rfl) 4 _ rfl sl4 ⟨_, rfl, Below.refl _ _, rfl⟩
     | 1, _ =>
      exact gw_move rfl (wanted_plain rfl) 3 _ rfl sl3 ⟨_, rfl, Below.refl _ _, rfl⟩
     | 2, _ =>
      exact gw_move rfl (wanted_plain rfl) 0 _ rfl sl0 ⟨_, rfl, Below.refl _ _, rfl⟩
     | 3, _ =>
      exact gw_move rfl (wanted_plain rfl) 5 _ rfl sl5 ⟨_, rfl, Below.refl _ _, rfl⟩
     | 4, _ =>
      obtain ⟨s0, r0, _⟩ := hw 2 (by omega) (by kernel_rfl)
      have e0 : v 2 = .slice (some ⟨b, o, none⟩) L c := r0
      rw [e0] at s0
      replace s0 : a.tmps[15]? = some (.slice (some ⟨b, o, none⟩) L c) := s0
      obtain ⟨s1, r1, _⟩ := hw 3 (by omega) (by kernel_rfl)
      have e1 : v 3 = .int .i64 (i : Int) := r1
      rw [e1] at s1
      replace s1 : a.tmps[16]? = some (.int .i64 (i : Int)) := s1
      refine wpOp_step rfl fun K' hK' => ?_
      rw [if_pos (wanted_plain rfl)]
      unfold Oper.wp
      simp only [execOp]
      go_simp
      exact hK' _ _ ⟨_, rfl, Below.refl _ _, rfl⟩
     | 5, _ =>
      obtain ⟨s0, r0, _⟩ := hw 4 (by omega) (by kernel_rfl)
      have e0 : v 4 = .pointer (some ⟨b, o + i * 4, none⟩) := r0
      rw [e0] at s0
      replace s0 : a.tmps[17]? = some (.pointer (some ⟨b, o + i * 4, none⟩)) := s0
      refine wpOp_step rfl fun K' hK' => ?_
      rw [if_pos (wanted_plain rfl)]
      unfold Oper.wp
      simp only [execOp]
      go_simp
      exact hK' _ _ ⟨_, rfl, Below.refl _ _, rfl⟩
     | 6, _ =>
      obtain ⟨s0, r0, _⟩ := hw 5 (by omega) (by kernel_rfl)
      have e0 : v 5 = .pointer (some ⟨b, o + i * 4 + 1, none⟩) := r0
      rw [e0] at s0
      replace s0 : a.tmps[18]? = some (.pointer (some ⟨b, o + i * 4 + 1, none⟩)) := s0
      have cc := (hb.cell (p := ⟨b, o + i * 4 + 1, none⟩) HLB.out).trans L1.out
      refine wpOp_step rfl fun K' hK' => ?_
      rw [if_pos (wanted_plain rfl)]
      unfold Oper.wp
      simp only [execOp]
      go_simp
      exact hK' _ _ ⟨_, rfl, Below.refl _ _, rfl⟩
     | 7, _ =>
      obtain ⟨s0, r0, _⟩ := hw 6 (by omega) (by kernel_rfl)
      have e0 : v 6 = .int .i64 n := r0
      rw [e0] at s0
      replace s0 : a.tmps[19]? = some (.int .i64 n) := s0
      refine gw_tc rfl (wanted_plain rfl) 46 19 _ _ _ rfl (fun v u w => by go_simp) s0 ?_
      with_reducible refine (MOC.out w9).mono ?_
      rintro e w3 ⟨rfl, rfl⟩
      exact ⟨_, rfl, _, rfl, Below.refl _ _, rfl⟩
     | 8, _ =>
      obtain ⟨s0, r0, _⟩ := hw 1 (by omega) (by kernel_rfl)
      have e0 : v 1 = .slice (some ⟨bv, ov, none⟩) 4 cv := r0
      rw [e0] at s0
      replace s0 : a.tmps[14]? = some (.slice (some ⟨bv, ov, none⟩) 4 cv) := s0
      obtain ⟨s1, r1, _⟩ := hw 7 (by omega) (by kernel_rfl)
      have e1 : v 7 = .int .i64 (j : Int) := r1
      rw [e1] at s1
      replace s1 : a.tmps[20]? = some (.int .i64 (j : Int)) := s1
      refine wpOp_step rfl fun K' hK' => ?_
      rw [if_pos (wanted_plain rfl)]
      unfold Oper.wp
      simp only [execOp]
      go_simp
      rw [if_pos HJ4.out]
      exact hK' _ _ ⟨_, rfl, Below.refl _ _, rfl⟩
     | 9, _ =>
      obtain ⟨s0, r0, _⟩ := hw 8 (by omega) (by kernel_rfl)
      have e0 : v 8 = .pointer (some ⟨bv, ov + j * 2, none⟩) := r0
      rw [e0] at s0
      replace s0 : a.tmps[21]? = some (.pointer (some ⟨bv, ov + j * 2, none⟩)) := s0
      have cc0 := (hb.cell (p := ⟨bv, ov + j * 2, none⟩) HLV.out).trans X0.out
      have cc1 := (hb.cell (p := ⟨bv, ov + j * 2 + 1, none⟩) HLV.out).trans X1.out
      refine wpOp_step rfl fun K' hK' => ?_
      rw [if_pos (wanted_plain rfl)]
      unfold Oper.wp
      simp only [execOp]
      go_simp
      exact hK' _ _ ⟨_, rfl, Below.refl _ _, rfl⟩
     | 10, _ =>
      exact gw_move rfl (wanted_plain rfl) 0 _ rfl sl0 ⟨_, rfl, Below.refl _ _, rfl⟩
     | 11, _ =>
      exact gw_move rfl (wanted_plain rfl) 5 _ rfl sl5 ⟨_, rfl, Below.refl _ _, rfl⟩
     | 12, _ =>
      obtain ⟨s0, r0, _⟩ := hw 10 (by omega) (by kernel_rfl)
      have e0 : v 10 = .slice (some ⟨b, o, none⟩) L c := r0
      rw [e0] at s0
      replace s0 : a.tmps[23]? = some (.slice (some ⟨b, o, none⟩) L c) := s0
      obtain ⟨s1, r1, _⟩ := hw 11 (by omega) (by kernel_rfl)
      have e1 : v 11 = .int .i64 (i : Int) := r1
      rw [e1] at s1
      replace s1 : a.tmps[24]? = some (.int .i64 (i : Int)) := s1
      refine wpOp_step rfl fun K' hK' => ?_
      rw [if_pos (wanted_plain rfl)]
      unfold Oper.wp
      simp only [execOp]
      go_simp
      exact hK' _ _ ⟨_, rfl, Below.refl _ _, rfl⟩
     | 13, _ =>
      obtain ⟨s0, r0, _⟩ := hw 12 (by omega) (by kernel_rfl)
      have e0 : v 12 = .pointer (some ⟨b, o + i * 4, none⟩) := r0
      rw [e0] at s0
      replace s0 : a.tmps[25]? = some (.pointer (some ⟨b, o + i * 4, none⟩)) := s0
      have cc0 := (hb.cell (p := ⟨b, o + i * 4, none⟩) HLB.out).trans L0.out
      have cc1 := (hb.cell (p := ⟨b, o + i * 4 + 1, none⟩) HLB.out).trans L1.out
      have cc2 := (hb.cell (p := ⟨b, o + i * 4 + 2, none⟩) HLB.out).trans L2.out
      have cc3 := (hb.cell (p := ⟨b, o + i * 4 + 3, none⟩) HLB.out).trans L3.out
      refine wpOp_step rfl fun K' hK' => ?_
      rw [if_pos (wanted_plain rfl)]
      unfold Oper.wp
      simp only [execOp]
      go_simp
      exact hK' _ _ ⟨_, rfl, Below.refl _ _, rfl⟩
     | 14, _ =>
      obtain ⟨s0, r0, _⟩ := hw 13 (by omega) (by kernel_rfl)
      have e0 : v 13 = .agg #[z0, .int .i64 n, z2, z3] := r0
      rw [e0] at s0
      replace s0 : a.tmps[26]? = some (.agg #[z0, .int .i64 n, z2, z3]) := s0
      refine gw_t rfl (wanted_plain rfl) 20 26 _ _ rfl (fun v w => by go_simp) s0 ?_
      with_reducible refine (CALL.out w9 hb).mono ?_
      rintro e w3 ⟨t, ⟨cs3, rfl, h3, hb3⟩, hmt⟩
      exact ⟨_, rfl, _, rfl, hb3, Nat.le_trans hb.size hb3.size, t, cs3, rfl, h3.more (fun b hb' => up3 (Below.refl _ wo) hb b hb'), hmt⟩
     | 15, _ =>
      obtain ⟨s0, r0, _⟩ := hw 9 (by omega) (by kernel_rfl)
      have e0 : v 9 = .agg #[.string x.1, .string x.2] := r0
      rw [e0] at s0
      replace s0 : a.tmps[22]? = some (.agg #[.string x.1, .string x.2]) := s0
      obtain ⟨s1, r1, b1⟩ := hw 14 (by omega) (by kernel_rfl)
      obtain ⟨hz1, t1, cs1, e1, ht1, hm1⟩ := r1
      rw [e1] at s1
      obtain ⟨y0, y1, y2, y3, y4, y5, y6, A3, c3, ec, _, _⟩ := ht1.eleven
      subst ec
      unfold vTm at s1
      replace s1 : a.tmps[27]? = some (.agg #[.int .i64 t1.kd, .string t1.nm.1, .string t1.nm.2, y0, y1, y2, y3, y4, y5, y6, .slice A3 t1.args.length c3]) := s1
      refine wpOp_step rfl fun K' hK' => ?_
      rw [if_pos (wanted_plain rfl)]
      unfold Oper.wp
      simp only [execOp]
      go_simp
      exact hK' _ _ ⟨_, rfl, Below.refl _ _, Nat.le_trans hb.size (Nat.le_refl _), t1, _, rfl, ht1, hm1⟩
     | 16, _ =>
      obtain ⟨s0, r0, b0⟩ := hw 15 (by omega) (by kernel_rfl)
      obtain ⟨hz0, t0, cs0, e0, ht0, hm0⟩ := r0
      rw [e0] at s0
      have o1 := ht0.o11
      obtain ⟨y0, y1, y2, y3, y4, y5, y6, A3, c3, ec, _, _⟩ := ht0.eleven
      subst ec
      replace s0 : a.tmps[28]? = some (.agg #[.string x.1, .string x.2, .int .i64 t0.kd, .string t0.nm.1, .string t0.nm.2, y0, y1, y2, y3, y4, y5, y6, .slice A3 t0.args.length c3]) := s0
      refine wpOp_step rfl fun K' hK' => ?_
      rw [if_pos (wanted_plain rfl)]
      unfold Oper.wp
      simp only [execOp]
      go_simp
      exact hK' _ _ ⟨_, rfl, below_alT _ _, Nat.le_trans hb.size (below_alT _ _).size, t0, _, rfl, heap_alloc_new _ _, by simp, (ht0.below (fun b hb' => upto_lt (NoB.in _) hb.size b hb') (below_alT _ _)).more (fun b hb' => upto_more (below_alT _ _).size b hb'), hm0⟩
     | k + 17, h => exact absurd h (by omega)
    case done =>
     intro a w9 v lo hi' hdef hsz hoth hb hj hap
     obtain ⟨_, hv0, _, _⟩ := hj 0 (by omega)
     obtain ⟨_, hv9, _, _⟩ := hj 9 (by omega)
     obtain ⟨_, ⟨hz16, t, cs3, hv16, hrow, hlt16, h3, hmt⟩, hlo16, hhi16⟩ := hj 16 (by omega)
     have ha := eq_puts hdef hsz hoth (fun i hi => (hj i hi).1)
     subst ha
     clear hj hoth hdef hsz hap
     change v 0 = _ at hv0
     change v 9 = _ at hv9
     simp only [puts, List.getD_cons_zero, List.getD_cons_succ, hv0, hv9, hv16]
     generalize v 1 = v1
     generalize v 2 = v2
     generalize v 3 = v3
     generalize v 4 = v4
     generalize v 5 = v5
     generalize v 6 = v6
     generalize v 7 = v7
     generalize v 8 = v8
     generalize v 10 = v10
     generalize v 11 = v11
     generalize v 12 = v12
     generalize v 13 = v13
     generalize v 14 = v14
     generalize v 15 = v15
     clear hv0 hv9 hv16
     simp only [Act.put, List.setIfInBounds_toArray, List.set_cons_zero, List.set_cons_succ]
     show wpList _ _ _ [_, _] _ _
     obtain ⟨y0, y1, y2, y3, y4, y5, y6, A3, c3, e3, _, _⟩ := h3.eleven
     have O1 := hI h3.o11
     have own3 := hI (HMK.out.below hb).own
     rw [HTL.out] at own3
     have HSTEP : Hid (∀ v' w4, w4.ownsRow Y.heap.size 64 13 v' (i + 1) (xs.flatten ++ Value.string x.1 :: Value.string x.2 :: cs3) → w9.grownBy w4 sl.ownBlock → (v'.ownBlock = sl.ownBlock ∨ v'.ownBlock = some w9.heap.size) → AsL PO Y w4 l (i + 1) v') :=
      fun v' w4 h4 hg hat => ⟨_, _, HMK.out.step2 (NoB.in _) hb h3 (by rw [HTL.out]; exact h4) hg hat, by rw [List.length_append, HTL.out]; rfl, HSN.out t hmt⟩
     have hone : ∀ u ∈ (Value.string x.1 :: Value.string x.2 :: cs3), u.oneCell' = true := by
      intro u hu
      rcases List.mem_cons.1 hu with rfl | hu
      · rfl
      · rcases List.mem_cons.1 hu with rfl | hu
        · rfl
        · exact O1.out.2 u hu
     have hnews : ∀ j u, (Value.string x.1 :: Value.string x.2 :: cs3)[j]? = some u → w9.cell? ((⟨lo 16, 0, none⟩ : Addr).add j) = some u := news_at hrow
     have hs3 : Y.heap.size ≤ w9.heap.size := by have := hb.size; omega
     subst e3
     have HONE := hI hone
     have HNEWS := hI hnews
     generalize lo 16 = q at *
     clear h3 hb CALL hone hnews hmt HSN HMK hYs
     go_wp2_with (at_builtin; refine wpList_append_own_at _ rfl (.tmp 13) (.tmp 29) _ rfl Y.heap.size 64 i0 _ 13 208 Tryz.underlying60 HI0.out HZ0.out HZ1.out HZ2.out rfl (by omega) sl i xs.flatten rfl own3.out ⟨q, 0, none⟩ 1 1 [.string x.1, .string x.2, .int .i64 t.kd, .string t.nm.1, .string t.nm.2, y0, y1, y2, y3, y4, y5, y6, .slice A3 t.args.length c3] rfl rfl HNEWS.out HONE.out (by simp only [maxLen]; omega) (by omega) hs3 ?_; intro v4 w4 hown4 hg4 hnil4 hat4; have hst := hI (HSTEP.out v4 w4 hown4 hg4 hat4); clear hown4 hg4 hnil4 hat4)
     go_roundw
     case rel => exact ⟨i + 1, _, rfl, by omega, by go_num, hst⟩
     case measure => simp [intOf]; omega
  · have hiL2 : i = L := by omega
    have hn : ¬ (i : Int) < L := by omega
    have hr := hI (HQ.out wo sl (hiL2 ▸ hE.out))
    clear hE hiL2 hlt
    go_wp2
    go_ret
    exact hr.out
theorem findA_mem {s : List (Nm × Tm)} {x : Nm} {t : Tm} (h : findA s x = some t) : ∃ p ∈ s, p.2 = t := by
 induction s with
 | nil => cases h
 | cons p r ih =>
  unfold findA at h
  split at h
  · injection h with h
    exact ⟨p, by simp, h⟩
  · obtain ⟨q, hq, e⟩ := ih h
    exact ⟨q, by simp [hq], e⟩
theorem subVar_cases (s : List (Nm × Tm)) (x : Nm) : subT s (.var x) = .var x ∨ ∃ p ∈ s, subT s (.var x) = p.2 := by
 have e1 : subT s (.var x) = match findA s x with
  | some t => t
  | none => .var x := by unfold subT; rfl
 rw [e1]
 cases h : findA s x with
 | none => exact .inl rfl
 | some t =>
  obtain ⟨p, hp, e⟩ := findA_mem h
  exact .inr ⟨p, hp, e.symm⟩
mutual
theorem subT_nodes {PO : Rw → Ob → Prop} {s : List (Nm × Tm)} {N : Nat} (hN : 4 ≤ N) (hs : ∀ p ∈ s, p.2.nodes ≤ N) : ∀ (r : Rw) (t : Tm), mtP PO r t → (subT s t).nodes ≤ N * r.cnt
 | .mk k n b l, t, h => by
  unfold mtP at h
  unfold Rw.cnt
  have hm : N * (1 + Rw.cnts l) = N + N * Rw.cnts l := by rw [Nat.mul_add, Nat.mul_one]
  split at h
  · subst h
    rcases subVar_cases s (vAt n) with e | ⟨p, hp, e⟩
    · rw [e]; unfold Tm.nodes; omega
    · rw [e]; have := hs p hp; omega
  · split at h
    · obtain ⟨o, rfl, _, ho⟩ := h
      have h1 := ho.nodes
      have h2 : 4 * (1 + Rw.cnts l) ≤ N * (1 + Rw.cnts l) := Nat.mul_le_mul_right _ hN
      unfold subT Tm.nodes; omega
    · obtain ⟨ts, rfl, _, h2⟩ := h
      have := subTs_nodes hN hs l ts h2
      unfold subT Tm.nodes; omega
theorem subTs_nodes {PO : Rw → Ob → Prop} {s : List (Nm × Tm)} {N : Nat} (hN : 4 ≤ N) (hs : ∀ p ∈ s, p.2.nodes ≤ N) : ∀ (l : List Rw) (ts : List Tm), mtsP PO l ts → Tm.nodesL (subTs s ts) ≤ N * Rw.cnts l
 | _, [], _ => by unfold subTs Tm.nodesL; omega
 | [], _ :: _, h => by unfold mtsP at h; exact h.elim
 | r :: rs, t :: ts, h => by
  unfold mtsP at h
  unfold subTs Tm.nodesL Rw.cnts
  have h1 := subT_nodes hN hs r t h.1
  have h2 := subTs_nodes hN hs rs ts h.2
  rw [Nat.mul_add]; omega
end
theorem asP_all {PO : Rw → Ob → Prop} {N : Nat} : ∀ (l : List Rw) (s : List (Nm × Tm)), (∀ i (hi : i < l.length), (l[i].cnt : Int) ≤ N) → asP PO l s → ∀ p ∈ s, p.2.nodes ≤ 4 * N ∧ p.2.bd 10 ∧ p.1 ∈ vN4 ∧ ∃ r, mtP PO r p.2 ∧ r.cnt ≤ N
 | _, [], _, _, p, hp => by simp at hp
 | [], _ :: _, _, h, p, hp => by unfold asP at h; exact h.elim
 | r :: rs, a :: s, hl, h, p, hp => by
  unfold asP at h
  obtain ⟨h1, h2, h3⟩ := h
  have h0 := hl 0 (by simp)
  have h0' : (r.cnt : Int) ≤ N := h0
  rcases List.mem_cons.1 hp with rfl | hp
  · refine ⟨?_, mtP_bd _ _ h2, ?_, r, h2, by omega⟩
    · have := mtP_nodes _ _ h2; omega
    · rw [h1]
      unfold vAt
      have hlt : (r.nn % 4).toNat < 4 := by omega
      rw [List.getD_eq_getElem?_getD, List.getElem?_eq_getElem (show (r.nn % 4).toNat < vN4.length from hlt)]
      exact List.getElem_mem _
  · exact asP_all rs s (fun i hi => hl (i + 1) (by simpa using hi)) h3 p hp


end Go.Proofs.YtlocnkobancjmaaGreatDoor
