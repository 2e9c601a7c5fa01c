import Derived.Test.YteaieeokfiikgaaGreatDoorAl
import Derived.Test.YteaieeokfiikgaaGreatDoorG32
namespace Go.Proofs.YteaieeokfiikgaaGreatDoor
open Go Go.RowKit
set_option linter.unusedVariables false
section
variable {Q : Exit → Act → World → Prop} {ops : Array Oper} {K : Act → World → Prop} {a : Act} {w : World} {i : Nat} {o : Oper}
theorem gw_eqE2 (ho : ops[i]? = some o) (hw : Region.wanted o (yielded ops a.tmps) = true) (s t : Tmp) (n : Int) (hop : o.op = Op.binOp BinOp.eql 37 (.tmp s) (.tmp t) 37) (hx : a.tmps[s]? = some (.int .i64 n)) (hy : a.tmps[t]? = some (.int .i64 n)) (hK : K (a.put o.dst (.bool true)) w) : wpOp Tryz.prog ops Q i K a w :=
 wpOp_step ho fun K' hK' => by
  rw [if_pos hw]
  unfold Oper.wp
  simp only [execOp, hop]
  go_simp
  exact hK' _ _ hK
theorem gw_eqB2 (ho : ops[i]? = some o) (hw : Region.wanted o (yielded ops a.tmps) = true) (s t : Tmp) (n : Bool) (hop : o.op = Op.binOp BinOp.eql 4 (.tmp s) (.tmp t) 4) (hx : a.tmps[s]? = some (.bool n)) (hy : a.tmps[t]? = some (.bool n)) (hK : K (a.put o.dst (.bool true)) w) : wpOp Tryz.prog ops Q i K a w :=
 wpOp_step ho fun K' hK' => by
  rw [if_pos hw]
  unfold Oper.wp
  simp only [execOp, hop]
  go_simp
  exact hK' _ _ hK
theorem gw_ldS (ho : ops[i]? = some o) (hw : Region.wanted o (yielded ops a.tmps) = true) (x : Operand) (hop : o.op = .load 23 x) {g : Nat} {x0 y0 : Value} (hx : a.eval x = .pointer (some ⟨g, 0, none⟩)) (hb : Sy.SB w g x0 y0)
 (hK : K (a.put o.dst (.agg #[x0, y0])) w) : wpOp Tryz.prog ops Q i K a w :=
 gw_load ho hw 23 x hop g hx _ _ _ _ hb Tryz.underlying23 rfl (by kernel_rfl) hK
end
theorem applyPG (fp fn : ByteArray) (l : List Ob) (v : Value) (w : World) (hv : Ar w l v) (hs : ∀ o ∈ l, Sml o) (ht : Tab w) : Calls Tryz.prog 20 #[.agg #[.string fp, .string fn], v] w (RetU w (appV true (fndP fp fn) l)) :=
 (applyPall fp fn l v w hv true ht (fun o ho => (hs o ho).fine) (fun j _ _ o ho => (hs o ho).ints) (fun j hj hl W q hq _ => validGP _ q W (primV_good j l (fndP_spec hj).2.1 hl hs) hq)).mono fun _ _ h => h.u
theorem applyRG (fp fn : ByteArray) (l : List Ob) (v : Value) (w : World) (hv : Ar w l v) (hs : ∀ o ∈ l, Sml o) (ht : Tab w) : Calls Tryz.prog 21 #[.agg #[.string fp, .string fn], v] w (RetU w (appV true (fndP fp fn) l)) :=
 (applyRall fp fn l v w hv true ht (fun o ho => (hs o ho).fine) (fun j _ _ o ho => (hs o ho).ints) (fun j hj hl W q hq _ => validGR _ q W (primV_good j l (fndP_spec hj).2.1 hl hs) hq)).mono fun _ _ h => h.u
theorem guardPG (fp fn : ByteArray) (l : List Ob) (v : Value) (w : World) (hv : Ar w l v) (hs : ∀ o ∈ l, Sml o) (ht : Tab w) : Calls Tryz.prog 24 #[.agg #[.string fp, .string fn], v] w (RetB w (grdV (fndP fp fn) l)) :=
 guardPall fp fn l v w hv ht (fun o ho => (hs o ho).fine) (fun j _ _ o ho => (hs o ho).ints)
theorem guardRG (fp fn : ByteArray) (l : List Ob) (v : Value) (w : World) (hv : Ar w l v) (hs : ∀ o ∈ l, Sml o) (ht : Tab w) : Calls Tryz.prog 25 #[.agg #[.string fp, .string fn], v] w (RetB w (grdV (fndP fp fn) l)) :=
 guardRall fp fn l v w hv ht (fun o ho => (hs o ho).fine) (fun j _ o ho => (hs o ho).ints)
set_option maxHeartbeats 16000000 in
set_option maxRecDepth 100000 in
theorem lawUnknown (fp fn : ByteArray) (l : List Rw) (A : Option Addr) (c : Nat) (w : World) (hc : l.length ≤ c) (hcm : c ≤ maxLen) (hA : 0 < l.length → ∃ b o, A = some ⟨b, o, none⟩ ∧ Has w b ∧ RawsAt w (Has w) b o l) (ht : Tab w) :
 Calls Tryz.prog 6 #[.agg #[.string fp, .string fn], .slice A l.length c] w (RetB w true) := by
 have HA0 : Hid (∀ W', Below w.heap.size w W' → 0 < l.length → ∃ b o, A = some ⟨b, o, none⟩ ∧ Has w b ∧ RawsAt W' (Has w) b o l) := fun W' hb h0 => by
  obtain ⟨b, o, e, hbb, hr⟩ := hA h0
  exact ⟨b, o, e, hbb, RawsAt.keep (fun q hq => hb.cell (In.has w q.block hq)) b o hbb l hr⟩
 clear hA
 have CFA : Hid (∀ W', Below w.heap.size w W' → Calls Tryz.prog 18 #[.slice A l.length c, .int .i64 12] W' (fun e w' => ∃ t, e = .returned (.bool t) ∧ Below W'.heap.size W' w' ∧ (t = true → l.length ≤ 8 ∧ ∀ i (hi : i < l.length), few l[i] 12 = true))) := fun W' h =>
  fewAllO l A c 12 W' (Has w) (In.has w |>.later h.size) hc hcm (by decide) (by decide) (HA0.out W' h)
 have COb : Hid ((l.length ≤ 8 ∧ ∀ i (hi : i < l.length), few l[i] 12 = true) → ∀ W', Below w.heap.size w W' → Tab W' → Calls Tryz.prog 19 #[.slice A l.length c] W' (RetAr W' l.length)) := fun hf W' h ht' =>
  (objectsO l A c W' (Has w) (In.has w |>.later h.size) hf.1 hc ht' (HA0.out W' h) (fun x hx => by
    obtain ⟨i, hi, rfl⟩ := List.getElem_of_mem hx
    exact (few_ok (hf.2 i hi)).1)).mono fun _ _ hr => hr.ar (by have := cnts_le l 12 hf.2; have := hf.1; omega)
 have CP : Hid (∀ os v W, Ar W os v → (∀ o ∈ os, Sml o) → Tab W → Calls Tryz.prog 20 #[.agg #[.string fp, .string fn], v] W (RetU W (appV true (fndP fp fn) os))) := fun os v W => applyPG fp fn os v W
 have CR : Hid (∀ os v W, Ar W os v → (∀ o ∈ os, Sml o) → Tab W → Calls Tryz.prog 21 #[.agg #[.string fp, .string fn], v] W (RetU W (appV true (fndP fp fn) os))) := fun os v W => applyRG fp fn os v W
 have GP : Hid (∀ os v W, Ar W os v → (∀ o ∈ os, Sml o) → Tab W → Calls Tryz.prog 24 #[.agg #[.string fp, .string fn], v] W (RetB W (grdV (fndP fp fn) os))) := fun os v W => guardPG fp fn os v W
 have GR : Hid (∀ os v W, Ar W os v → (∀ o ∈ os, Sml o) → Tab W → Calls Tryz.prog 25 #[.agg #[.string fp, .string fn], v] W (RetB W (grdV (fndP fp fn) os))) := fun os v W => guardRG fp fn os v W
 clear HA0 hc hcm
 generalize (l.length ≤ 8 ∧ ∀ i (hi : i < l.length), few l[i] 12 = true) = OKP at CFA COb
 generalize l.length = L at *
 generalize fndP fp fn = R at *
 have S0 := Sy.SB.new w (.string fp) (.string fn)
 have hb0 : Below w.heap.size w (w.alloc (.cells #[.string fp, .string fn] 23)) := Below.alloc (Below.refl _ _) (Nat.le_refl _) _
 have HT := qh9 ht
 clear ht
 go_enter Tryz.func6, Tryz.ntmps6
 go_upto_region 1 with fail
 generalize w.alloc (.cells #[.string fp, .string fn] 23) = W at S0 hb0 ⊢
 have HW := qh9 hb0
 replace HT := qh9 (HT.out.below hb0)
 have BS := qh9 S0
 clear S0 hb0
 go_wp2_with fail
 with_reducible refine (first7 _ HT.out).mono ?_
 rintro e w1 ⟨rfl, hb⟩
 replace HT := qh9 (HT.out.below hb)
 replace HW := qc9 HW hb
 replace BS := qh9 (BS.out.keep hb)
 clear hb
 go_wp2_with fail
 with_reducible refine (CFA.out _ HW.out).mono ?_
 rintro e w2 ⟨t, rfl, hb, hok⟩
 replace HT := qh9 (HT.out.below hb)
 replace HW := qc9 HW hb
 replace BS := qh9 (BS.out.keep hb)
 clear hb
 cases t with
 | false =>
  clear hok
  go_wp2
  go_ret
  exact ⟨rfl, HW.out⟩
 | true =>
  have HK := qh9 (hok rfl)
  clear hok
  go_wp2_with fail
  with_reducible refine (COb.out HK.out _ HW.out HT.out).mono ?_
  rintro e w3 ⟨os, sv, rfl, ha, hl, hs, hb⟩
  replace HT := qh9 (HT.out.below hb)
  replace HW := qc9 HW hb
  replace BS := qh9 (BS.out.keep hb)
  clear hb hl
  have HA := qh9 ha
  have CP1 : Hid (∀ W, Ar W os sv → Tab W → _) := fun W h t => CP.out os sv W h hs t
  have CR1 : Hid (∀ W, Ar W os sv → Tab W → _) := fun W h t => CR.out os sv W h hs t
  have GP1 : Hid (∀ W, Ar W os sv → Tab W → _) := fun W h t => GP.out os sv W h hs t
  have GR1 : Hid (∀ W, Ar W os sv → Tab W → _) := fun W h t => GR.out os sv W h hs t
  clear CP CR GP GR ha hs HK COb CFA
  generalize appV true R os = rz at CP1 CR1
  generalize grdV R os = gd at GP1 GR1
  obtain ⟨ro, rn⟩ := rz
  obtain ⟨s0, s1⟩ := And.intro BS.out.c0 BS.out.c1
  go_wp2_with fail
  clear s0 s1
  with_reducible refine (CP1.out _ HA.out HT.out).mono ?_
  rintro e w4 ⟨cs, rfl, u1, hb⟩
  replace HT := qh9 (HT.out.below hb)
  replace HW := qc9 HW hb
  replace BS := qh9 (BS.out.keep hb)
  replace HA := qh9 (HA.out.below hb)
  clear hb
  replace u1 := qh9 u1
  have N1 := qh9 (Bx1.new w4 #[.int .i64 0, .string ⟨#[]⟩, .string ⟨#[]⟩, .string ⟨#[]⟩, .string ⟨#[]⟩, .string ⟨#[]⟩, .slice none 0 0])
  go_upto_region 7 with ((with_reducible refine storeU (w1 := w4) (g := w4.heap.size) (cs := cs) (r := (ro, rn)) (.tmp 6) (.tmp 21) ?_ ?_ ?_ ?_ u1.out N1.out.b0 ?_); rfl; rfl; rfl; rfl)
  have Q := boxU w4 #[.int .i64 0, .string ⟨#[]⟩, .string ⟨#[]⟩, .string ⟨#[]⟩, .string ⟨#[]⟩, .string ⟨#[]⟩, .slice none 0 0] cs
  generalize World.setRow (w4.alloc (.cells #[.int .i64 0, .string ⟨#[]⟩, .string ⟨#[]⟩, .string ⟨#[]⟩, .string ⟨#[]⟩, .string ⟨#[]⟩, .slice none 0 0] 36)) w4.heap.size cs = X4 at Q ⊢
  have hb := Q.1
  replace HT := qh9 (HT.out.below hb)
  replace HW := qc9 HW hb
  replace BS := qh9 (BS.out.keep hb)
  replace HA := qh9 (HA.out.below hb)
  replace u1 := qh9 (u1.out.below hb)
  have B1 := qh9 Q.2
  clear hb Q N1
  obtain ⟨s0, s1⟩ := And.intro BS.out.c0 BS.out.c1
  go_wp2_with fail
  clear s0 s1
  with_reducible refine (CR1.out _ HA.out HT.out).mono ?_
  rintro e w5 ⟨ds, rfl, u2, hb⟩
  replace HT := qh9 (HT.out.below hb)
  replace HW := qc9 HW hb
  replace BS := qh9 (BS.out.keep hb)
  replace HA := qh9 (HA.out.below hb)
  replace u1 := qh9 (u1.out.below hb)
  replace B1 := qh9 (B1.out.keep hb)
  clear hb
  replace u2 := qh9 u2
  have N1 := qh9 (Bx1.new w5 #[.int .i64 0, .string ⟨#[]⟩, .string ⟨#[]⟩, .string ⟨#[]⟩, .string ⟨#[]⟩, .string ⟨#[]⟩, .slice none 0 0])
  go_upto_region 8 with ((with_reducible refine storeU (w1 := w5) (g := w5.heap.size) (cs := ds) (r := (ro, rn)) (.tmp 8) (.tmp 27) ?_ ?_ ?_ ?_ u2.out N1.out.b0 ?_); rfl; rfl; rfl; rfl)
  have Q := boxU w5 #[.int .i64 0, .string ⟨#[]⟩, .string ⟨#[]⟩, .string ⟨#[]⟩, .string ⟨#[]⟩, .string ⟨#[]⟩, .slice none 0 0] ds
  generalize World.setRow (w5.alloc (.cells #[.int .i64 0, .string ⟨#[]⟩, .string ⟨#[]⟩, .string ⟨#[]⟩, .string ⟨#[]⟩, .string ⟨#[]⟩, .slice none 0 0] 36)) w5.heap.size ds = X5 at Q ⊢
  have hb := Q.1
  replace HT := qh9 (HT.out.below hb)
  replace HW := qc9 HW hb
  replace BS := qh9 (BS.out.keep hb)
  replace HA := qh9 (HA.out.below hb)
  replace u1 := qh9 (u1.out.below hb)
  replace B1 := qh9 (B1.out.keep hb)
  replace u2 := qh9 (u2.out.below hb)
  have B2 := qh9 Q.2
  clear hb Q N1
  refine wp_region_grow (l := _) 12 (by kernel_rfl) (by kernel_rfl) (fun i => [29, 30, 31, 32, 33, 34, 35, 36, 37, 38, 39, 40].getD i 0) (LR [LV (.int .i64 rn), LV (.int .i64 rn), LV (.bool true), LV (.bool true), LV (.agg #[.string fp, .string fn]), LV (sv), LV (.bool gd), LV (.agg #[.string fp, .string fn]), LV (sv), LV (.bool gd), LV (.bool true), LV (.bool true)]) (LR_mono (l := [LV (.int .i64 rn), LV (.int .i64 rn), LV (.bool true), LV (.bool true), LV (.agg #[.string fp, .string fn]), LV (sv), LV (.bool gd), LV (.agg #[.string fp, .string fn]), LV (sv), LV (.bool gd), LV (.bool true), LV (.bool true)]) ⟨mLV _, mLV _, mLV _, mLV _, mLV _, mLV _, mLV _, mLV _, mLV _, mLV _, mLV _, mLV _, trivial⟩) (by
   intro i j hi hj h
   exact inj_getD [29, 30, 31, 32, 33, 34, 35, 36, 37, 38, 39, 40] (by decide) i j hi hj h) (by
   intro i hi
   exact lt_getD 41 [29, 30, 31, 32, 33, 34, 35, 36, 37, 38, 39, 40] (by decide) i hi) ?step ?done
  case step =>
   intro i hi a w9 v lo hi' hoth hb hw
   have sl7 : a.tmps[7]? = some (.int .i64 rn) := (hoth 7 (fun j hj => by
    have := ne_getD 7 [29, 30, 31, 32, 33, 34, 35, 36, 37, 38, 39, 40] (by decide) j hj
    exact this)).trans rfl
   have sl9 : a.tmps[9]? = some (.int .i64 rn) := (hoth 9 (fun j hj => by
    have := ne_getD 9 [29, 30, 31, 32, 33, 34, 35, 36, 37, 38, 39, 40] (by decide) j hj
    exact this)).trans rfl
   have sl2 : a.tmps[2]? = some (.pointer (some ⟨w.heap.size, 0, none⟩)) := (hoth 2 (fun j hj => by
    have := ne_getD 2 [29, 30, 31, 32, 33, 34, 35, 36, 37, 38, 39, 40] (by decide) j hj
    exact this)).trans rfl
   have sl5 : a.tmps[5]? = some (sv) := (hoth 5 (fun j hj => by
    have := ne_getD 5 [29, 30, 31, 32, 33, 34, 35, 36, 37, 38, 39, 40] (by decide) j hj
    exact this)).trans rfl
   match i, hi with
   | 0, _ =>
    exact gw_move rfl (wanted_plain rfl) 7 _ rfl sl7 ⟨_, rfl, Below.refl _ _, rfl⟩
   | 1, _ =>
    exact gw_move rfl (wanted_plain rfl) 9 _ rfl sl9 ⟨_, rfl, Below.refl _ _, rfl⟩
   | 2, _ =>
    obtain ⟨s0, r0, _⟩ := hw 0 (by omega) (by kernel_rfl)
    have e0 : v 0 = .int .i64 rn := r0
    rw [e0] at s0
    obtain ⟨s1, r1, _⟩ := hw 1 (by omega) (by kernel_rfl)
    have e1 : v 1 = .int .i64 rn := r1
    rw [e1] at s1
    exact gw_eqE2 rfl (wanted_plain rfl) 29 30 _ rfl s0 s1 ⟨_, rfl, Below.refl _ _, rfl⟩
   | 3, _ =>
    obtain ⟨s0, r0, _⟩ := hw 2 (by omega) (by kernel_rfl)
    have e0 : v 2 = .bool true := r0
    rw [e0] at s0
    exact gw_move rfl (wanted_plain rfl) 31 _ rfl s0 ⟨_, rfl, Below.refl _ _, rfl⟩
   | 4, _ =>
    obtain ⟨s9, r9, _⟩ := hw 3 (by omega) (by kernel_rfl)
    have e9 : v 3 = .bool true := r9
    rw [e9] at s9
    exact gw_ldS rfl (wanted_on rfl rfl rfl s9 rfl) (.tmp 2) rfl (eval_of sl2) (BS.out.keep hb) ⟨_, rfl, Below.refl _ _, rfl⟩
   | 5, _ =>
    obtain ⟨s9, r9, _⟩ := hw 3 (by omega) (by kernel_rfl)
    have e9 : v 3 = .bool true := r9
    rw [e9] at s9
    exact gw_move rfl (wanted_on rfl rfl rfl s9 rfl) 5 _ rfl sl5 ⟨_, rfl, Below.refl _ _, rfl⟩
   | 6, _ =>
    obtain ⟨s9, r9, _⟩ := hw 3 (by omega) (by kernel_rfl)
    have e9 : v 3 = .bool true := r9
    rw [e9] at s9
    obtain ⟨s0, r0, _⟩ := hw 4 (by omega) (by kernel_rfl)
    have e0 : v 4 = .agg #[.string fp, .string fn] := r0
    rw [e0] at s0
    obtain ⟨s1, r1, _⟩ := hw 5 (by omega) (by kernel_rfl)
    have e1 : v 5 = sv := r1
    rw [e1] at s1
    refine gw_tt rfl (wanted_on rfl rfl rfl s9 rfl) 24 33 34 _ _ _ rfl (fun v u w => by go_simp) s0 s1 ?_
    with_reducible refine (GP1.out w9 (HA.out.below hb) (HT.out.below hb)).mono ?_
    rintro e w3 ⟨rfl, hb3⟩
    exact ⟨_, rfl, _, rfl, hb3, rfl⟩
   | 7, _ =>
    obtain ⟨s9, r9, _⟩ := hw 3 (by omega) (by kernel_rfl)
    have e9 : v 3 = .bool true := r9
    rw [e9] at s9
    exact gw_ldS rfl (wanted_on rfl rfl rfl s9 rfl) (.tmp 2) rfl (eval_of sl2) (BS.out.keep hb) ⟨_, rfl, Below.refl _ _, rfl⟩
   | 8, _ =>
    obtain ⟨s9, r9, _⟩ := hw 3 (by omega) (by kernel_rfl)
    have e9 : v 3 = .bool true := r9
    rw [e9] at s9
    exact gw_move rfl (wanted_on rfl rfl rfl s9 rfl) 5 _ rfl sl5 ⟨_, rfl, Below.refl _ _, rfl⟩
   | 9, _ =>
    obtain ⟨s9, r9, _⟩ := hw 3 (by omega) (by kernel_rfl)
    have e9 : v 3 = .bool true := r9
    rw [e9] at s9
    obtain ⟨s0, r0, _⟩ := hw 7 (by omega) (by kernel_rfl)
    have e0 : v 7 = .agg #[.string fp, .string fn] := r0
    rw [e0] at s0
    obtain ⟨s1, r1, _⟩ := hw 8 (by omega) (by kernel_rfl)
    have e1 : v 8 = sv := r1
    rw [e1] at s1
    refine gw_tt rfl (wanted_on rfl rfl rfl s9 rfl) 25 36 37 _ _ _ rfl (fun v u w => by go_simp) s0 s1 ?_
    with_reducible refine (GR1.out w9 (HA.out.below hb) (HT.out.below hb)).mono ?_
    rintro e w3 ⟨rfl, hb3⟩
    exact ⟨_, rfl, _, rfl, hb3, rfl⟩
   | 10, _ =>
    obtain ⟨s9, r9, _⟩ := hw 3 (by omega) (by kernel_rfl)
    have e9 : v 3 = .bool true := r9
    rw [e9] at s9
    obtain ⟨s0, r0, _⟩ := hw 6 (by omega) (by kernel_rfl)
    have e0 : v 6 = .bool gd := r0
    rw [e0] at s0
    obtain ⟨s1, r1, _⟩ := hw 9 (by omega) (by kernel_rfl)
    have e1 : v 9 = .bool gd := r1
    rw [e1] at s1
    exact gw_eqB2 rfl (wanted_on rfl rfl rfl s9 rfl) 35 38 _ rfl s0 s1 ⟨_, rfl, Below.refl _ _, rfl⟩
   | 11, _ =>
    obtain ⟨s0, r0, _⟩ := hw 3 (by omega) (by kernel_rfl)
    have e0 : v 3 = .bool true := r0
    rw [e0] at s0
    obtain ⟨s1, r1, _⟩ := hw 10 (by omega) (by kernel_rfl)
    have e1 : v 10 = .bool true := r1
    rw [e1] at s1
    exact gw_pickT rfl (wanted_plain rfl) 32 39 _ _ rfl s0 s1 ⟨_, rfl, Below.refl _ _, rfl⟩
  case done =>
   intro a w9 v lo hi' hdef hsz hoth hb hj hap
   obtain ⟨_, hv11, _, _⟩ := hj 11 (by omega)
   have ha := eq_puts hdef hsz hoth (fun i hi => (hj i hi).1)
   subst ha
   clear hj hoth hdef hsz hap
   change v 11 = _ at hv11
   simp only [puts, List.getD_cons_zero, List.getD_cons_succ, hv11]
   generalize v 0 = v0
   generalize v 1 = v1
   generalize v 2 = v2
   generalize v 3 = v3
   generalize v 4 = v4
   generalize v 5 = v5
   generalize v 6 = v6
   generalize v 7 = v7
   generalize v 8 = v8
   generalize v 9 = v9
   generalize v 10 = v10
   clear hv11
   simp only [Act.put, List.setIfInBounds_toArray, List.set_cons_zero, List.set_cons_succ]
   show wpList _ _ _ [_] _ _
   replace HT := qh9 (HT.out.below hb)
   replace HW := qc9 HW hb
   replace BS := qh9 (BS.out.keep hb)
   replace HA := qh9 (HA.out.below hb)
   replace u1 := qh9 (u1.out.below hb)
   replace B1 := qh9 (B1.out.keep hb)
   replace u2 := qh9 (u2.out.below hb)
   replace B2 := qh9 (B2.out.keep hb)
   clear hb
   go_wp2
   go_ret
   exact ⟨rfl, HW.out⟩
end Go.Proofs.YteaieeokfiikgaaGreatDoor
