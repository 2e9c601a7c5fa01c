/- The reference: words that look like numbers; zeros that are not wanted. -/
import Derived.Test.YtflnffgohbbhiaaGreatDoorG27
import Derived.Deep.RegionWith
namespace Go.Proofs.YtflnffgohbbhiaaGreatDoor
open Go Go.RowKit
set_option linter.unusedVariables false
def NuF (R : Option (List UInt8 × List UInt8)) (e : Ending) : Prop := match R with
 | some q => e = .returned (.tuple #[.string (BA q.1), .string (BA q.2), .bool true])
 | none => e = .returned (.tuple #[.string ⟨#[]⟩, .string ⟨#[]⟩, .bool false])
def NuP (R : Option (List UInt8 × List UInt8)) (w : World) (e : Ending) (w' : World) : Prop := NuF R e ∧ ∃ n, w' = w.drewN n
theorem NuP.none_ {R : Option (List UInt8 × List UInt8)} {w : World} (h : none = R) : NuP R w (.returned (.tuple #[.string ⟨#[]⟩, .string ⟨#[]⟩, .bool false])) w := by
 subst h
 exact ⟨rfl, 0, rfl⟩
theorem NuP.some_ {R : Option (List UInt8 × List UInt8)} {w w' : World} {a b : List UInt8} {x y : ByteArray} (h : some (a, b) = R) (hx : x = BA a) (hy : y = BA b) (hw : ∃ n, w' = w.drewN n) : NuP R w (.returned (.tuple #[.string x, .string y, .bool true])) w' := by
 subst h hx hy
 exact ⟨rfl, hw⟩
theorem digU_int (c : UInt8) : digU c = (decide (48 ≤ (c.toNat : Int)) && decide ((c.toNat : Int) ≤ 57)) := by
 have h : ((List.range 256).all fun n => digU (UInt8.ofNat n) == (decide (48 ≤ ((UInt8.ofNat n).toNat : Int)) && decide (((UInt8.ofNat n).toNat : Int) ≤ 57))) = true := by kernel_rfl
 have := List.all_eq_true.1 h c.toNat (List.mem_range.2 c.toNat_lt)
 rw [UInt8.ofNat_toNat] at this
 exact eq_of_beq this
def NuA (s : ByteArray) (i : Nat) (X D : List UInt8) (k : Nat) : Prop := (s.extract i k).data.toList ++ ((LA s).drop k).takeWhile digU = X ∧ ((LA s).drop k).dropWhile digU = D
theorem NuA.start (s : ByteArray) (i : Nat) : NuA s i (((LA s).drop i).takeWhile digU) (((LA s).drop i).dropWhile digU) i := ⟨by rw [ext_nil]; rfl, rfl⟩
theorem NuA.step {s : ByteArray} {i k : Nat} {X D : List UInt8} (h : NuA s i X D k) (hik : i ≤ k) (hk : k < s.size) (hd : digU s[k] = true) : NuA s i X D (k + 1) := by
 obtain ⟨h1, h2⟩ := h
 rw [la_drop hk, List.takeWhile_cons, if_pos hd] at h1
 rw [la_drop hk, List.dropWhile_cons, if_pos hd] at h2
 exact ⟨by rw [ext_snoc s hik hk, List.append_assoc]; exact h1, h2⟩
theorem NuA.stop {s : ByteArray} {i k : Nat} {X D : List UInt8} (h : NuA s i X D k) (hk : k < s.size) (hd : digU s[k] = false) : (s.extract i k).data.toList = X ∧ s[k] :: (LA s).drop (k + 1) = D := by
 obtain ⟨h1, h2⟩ := h
 rw [la_drop hk, List.takeWhile_cons, if_neg (by rw [hd]; simp), List.append_nil] at h1
 rw [la_drop hk, List.dropWhile_cons, if_neg (by rw [hd]; simp)] at h2
 exact ⟨h1, h2⟩
theorem NuA.last {s : ByteArray} {i k : Nat} {X D : List UInt8} (h : NuA s i X D k) (hk : k = s.size) : (s.extract i k).data.toList = X ∧ [] = D := by
 obtain ⟨h1, h2⟩ := h
 rw [la_end (by omega)] at h1 h2
 exact ⟨by rw [List.takeWhile_nil, List.append_nil] at h1; exact h1, h2⟩
def numXD (s : ByteArray) (pre X D : List UInt8) : Option (List UInt8 × List UInt8) := if X = [] then none else
 match D with
 | [] => some (LA s, [49])
 | c :: y => if c = 47 ∧ isDigL y = true then some (pre ++ X, y) else none
theorem numXD_eq (s : ByteArray) : numRL (LA s) = numXD s (if isM (LA s) then [45] else []) ((afterM (LA s)).takeWhile digU) ((afterM (LA s)).dropWhile digU) := by
 unfold numRL numXD
 rfl
theorem ext_ne {s : ByteArray} {i k : Nat} {X : List UInt8} (h : (s.extract i k).data.toList = X) (hik : i < k) (hk : k ≤ s.size) : X ≠ [] := by
 rintro rfl
 rw [la_ext] at h
 have := congrArg List.length h
 rw [List.length_take, List.length_drop, la_length] at this
 simp at this
 omega
theorem isM_cons {c : UInt8} {l : List UInt8} (h : ¬ c = 45) : isM (c :: l) = false ∧ afterM (c :: l) = c :: l := by
 constructor
 · unfold isM
   split
   · rename_i heq; injection heq with heq _; exact absurd heq h
   · rfl
 · unfold afterM
   split
   · rename_i heq; injection heq with heq _; exact absurd heq h
   · rfl
theorem ext_front {s : ByteArray} {k : Nat} {X : List UInt8} (h : (s.extract 0 k).data.toList = X) : s.extract 0 k = BA ([] ++ X) := ba_of h
theorem ext_minus {s : ByteArray} {k : Nat} {X : List UInt8} (h0 : 0 < s.size) (hc : s[0] = 45) (hk : 1 ≤ k) (h : (s.extract 1 k).data.toList = X) : s.extract 0 k = BA ([45] ++ X) := by
 refine ba_of ?_
 rw [← h, la_ext, la_ext, List.drop_zero]
 have := la_drop h0
 rw [List.drop_zero] at this
 rw [this, hc, show k - 0 = (k - 1) + 1 by omega, List.take_succ_cons, Nat.zero_add]
 rfl
set_option maxHeartbeats 8000000 in
set_option maxRecDepth 100000 in
theorem numeralR (s : ByteArray) (hs : s.size ≤ 6000) (w : World) : Calls Tryz.prog 54 #[.string s] w (NuP (numRL (LA s)) w) := by
 obtain ⟨R, hR⟩ : ∃ R, numRL (LA s) = R := ⟨_, rfl⟩
 rw [hR]
 rw [numXD_eq] at hR
 rcases Nat.eq_zero_or_pos s.size with h0 | h0
 · have hl : LA s = [] := List.eq_nil_of_length_eq_zero (by rw [la_length, h0])
   rw [hl] at hR
   have HR : Hid (none = R) := hR
   have a1 : (s.size : Int) = 0 := by omega
   have a2 : ¬ (0 : Int) < (s.size : Int) := by omega
   have HR2 := HR
   clear hR hl
   go_enter Tryz.func54, Tryz.ntmps54
   go_wp2_with fail
   go_loop [6] (fun v => v = .int .i64 0) (fun v => 0)
   case atStart => rfl
   case round =>
    obtain rfl := hrel
    go_wp2
    exact bodyPost_ret (results_tmp3 rfl _ _ _) rfl (NuP.none_ HR2.out)
 · have hl := la_drop h0
   rw [List.drop_zero] at hl
   have a2 : (0 : Int) < (s.size : Int) := by omega
   have a3 : (0 : Int) ≤ (0 : Int) ∧ (0 : Int) < (s.size : Int) := by omega
   by_cases h45 : s[0] = 45
   · have hM : isM (LA s) = true ∧ afterM (LA s) = (LA s).drop 1 := by
      rw [hl, h45]
      exact ⟨rfl, rfl⟩
     rw [hM.1, hM.2] at hR
     have HN : Hid (numXD s [45] (((LA s).drop 1).takeWhile digU) (((LA s).drop 1).dropWhile digU) = R) := hR
     have e0 : ((s[0].toNat : Int) == 45) = true := int_eq 45 h45
     have H45 := Lib.hid h45
     clear hR hl hM h45
     have HA0 := Lib.hid (NuA.start s 1)
     generalize ((LA s).drop 1).takeWhile digU = X at HN HA0
     generalize ((LA s).drop 1).dropWhile digU = D at HN HA0
     go_enter Tryz.func54, Tryz.ntmps54
     go_wp2_with fail
     go_loop [6] (fun v => ∃ k : Nat, 1 ≤ k ∧ k ≤ s.size ∧ v = .int .i64 (k : Int) ∧ Hid (NuA s 1 X D k)) (fun v => s.size - (intOf v).toNat)
     case atStart => exact ⟨1, Nat.le_refl _, by omega, rfl, HA0⟩
     case round =>
      clear HA0
      obtain ⟨k, hik, hk, rfl, HA⟩ := hrel
      rcases Nat.lt_or_ge k s.size with hlt | hge
      · have d1 : (k : Int) < (s.size : Int) := by omega
        have d2 : (0 : Int) ≤ (k : Int) ∧ (k : Int) < (s.size : Int) := by omega
        have hdi := digU_int s[k]
        by_cases hd : digU s[k] = true
        · have e1 : (48 : Int) ≤ (s[k].toNat : Int) ∧ (s[k].toNat : Int) ≤ 57 := by rw [hd] at hdi; simpa using hdi.symm
          have e2 := e1.1
          have e3 := e1.2
          have HA2 := Lib.hid (HA.out.step hik hlt hd)
          clear hdi hd e1 HA
          go_wp2
          go_round
          case rel => exact ⟨k + 1, by omega, hlt, by go_num, HA2⟩
          case measure => simp [intOf]; omega
        · have hd2 : digU s[k] = false := by simpa using hd
          obtain ⟨hX, hD⟩ := HA.out.stop hlt hd2
          have e4 : ¬ (48 : Int) ≤ (s[k].toNat : Int) ∨ ((48 : Int) ≤ (s[k].toNat : Int) ∧ ¬ (s[k].toNat : Int) ≤ 57) := by
           rw [hd2] at hdi
           by_cases h : (48 : Int) ≤ (s[k].toNat : Int)
           · right; refine ⟨h, ?_⟩; rw [decide_eq_true h] at hdi; simpa using hdi.symm
           · exact .inl h
          subst hD
          have HX := Lib.hid hX
          clear hdi hd hd2 hX HA
          by_cases hki : k = 1
          · have hX0 : X = [] := by
             have := HX.out
             rw [hki, ext_nil] at this
             exact this.symm
            have HR : Hid (none = R) := by
             have := HN.out
             unfold numXD at this
             rw [if_pos hX0] at this
             exact this
            have d3 : ((k : Int) == 1) = true := by rw [hki]; rfl
            clear hX0 HN HX hki
            rcases e4 with e4 | ⟨e4, e5⟩
            all_goals
             go_wp2
             exact bodyPost_ret (results_tmp3 rfl _ _ _) rfl (NuP.none_ HR.out)
          · have hX0 := ext_ne HX.out (show 1 < k by omega) hk
            have HR : Hid ((if s[k] = 47 ∧ isDigL ((LA s).drop (k + 1)) = true then some ([45] ++ X, (LA s).drop (k + 1)) else none) = R) := by
             have := HN.out
             unfold numXD at this
             rw [if_neg hX0] at this
             exact this
            have d3 : ((k : Int) == 1) = false := by rw [beq_eq_false_iff_ne]; omega
            have d4 : ((k : Int) == (s.size : Int)) = false := by rw [beq_eq_false_iff_ne]; omega
            clear hX0 HN hki
            by_cases h47 : s[k] = 47
            · have e6 : ((s[k].toNat : Int) != 47) = false := by rw [h47]; rfl
              have e7 : ¬ (48 : Int) ≤ (s[k].toNat : Int) := by rw [h47]; decide
              have HR2 : Hid ((if isDigL ((LA s).drop (k + 1)) = true then some ([45] ++ X, (LA s).drop (k + 1)) else none) = R) := by
               have := HR.out
               show _ = _
               rw [← this]
               by_cases hB : isDigL ((LA s).drop (k + 1)) = true
               · rw [if_pos hB, if_pos ⟨h47, hB⟩]
               · rw [if_neg hB, if_neg (fun h => hB h.2)]
              clear h47 HR e4
              by_cases hk1 : k + 1 = s.size
              · have d5 : ((k : Int) + 1 == (s.size : Int)) = true := by rw [beq_iff_eq]; omega
                have HR3 : Hid (none = R) := by
                 have := HR2.out
                 rw [la_end (show s.size ≤ k + 1 by omega), if_neg (by simp [isDigL])] at this
                 exact this
                clear hk1 HR2
                go_wp2
                exact bodyPost_ret (results_tmp3 rfl _ _ _) rfl (NuP.none_ HR3.out)
              · have d5 : ((k : Int) + 1 == (s.size : Int)) = false := by rw [beq_eq_false_iff_ne]; omega
                have hne : (LA s).drop (k + 1) ≠ [] := by
                 intro h
                 have := congrArg List.length h
                 rw [List.length_drop, la_length] at this
                 simp at this
                 omega
                have HR3 : Hid ((if ((LA s).drop (k + 1)).all digU = true then some ([45] ++ X, (LA s).drop (k + 1)) else none) = R) := by
                 have := HR2.out
                 unfold isDigL at this
                 rw [show ((LA s).drop (k + 1)).isEmpty = false by cases h : (LA s).drop (k + 1); exact absurd h hne; rfl] at this
                 exact this
                clear hne HR2 hk1
                go_wp2_with fail
                go_loop [7] (fun v => ∃ n : Nat, k + 1 ≤ n ∧ n ≤ s.size ∧ v = .int .i64 (n : Int) ∧ Hid (((LA s).drop (k + 1)).all digU = ((LA s).drop n).all digU)) (fun v => s.size - (intOf v).toNat)
                case atStart => exact ⟨k + 1, Nat.le_refl _, hlt, by go_num, Lib.hid rfl⟩
                case round =>
                 obtain ⟨n, hkn, hn, rfl, HQ⟩ := hrel
                 rcases Nat.lt_or_ge n s.size with hnl | hng
                 · have c1 : (n : Int) < (s.size : Int) := by omega
                   have c2 : (0 : Int) ≤ (n : Int) ∧ (n : Int) < (s.size : Int) := by omega
                   have hdi := digU_int s[n]
                   by_cases hd : digU s[n] = true
                   · have f1 : (48 : Int) ≤ (s[n].toNat : Int) ∧ (s[n].toNat : Int) ≤ 57 := by rw [hd] at hdi; simpa using hdi.symm
                     have f2 : ¬ (s[n].toNat : Int) < 48 := by omega
                     have f3 : ¬ (57 : Int) < (s[n].toNat : Int) := by omega
                     have HQ2 : Hid (((LA s).drop (k + 1)).all digU = ((LA s).drop (n + 1)).all digU) := by
                      show _ = _
                      rw [HQ.out, la_drop hnl, List.all_cons, hd, Bool.true_and]
                     clear hdi hd f1 HQ
                     go_wp2
                     go_round
                     case rel => exact ⟨n + 1, by omega, hnl, by go_num, HQ2⟩
                     case measure => simp [intOf]; omega
                   · have hd2 : digU s[n] = false := by simpa using hd
                     have HR4 : Hid (none = R) := by
                      have h1 := HR3.out
                      rw [HQ.out, la_drop hnl, List.all_cons, hd2, Bool.false_and, if_neg (by simp)] at h1
                      exact h1
                     have f1 : (s[n].toNat : Int) < 48 ∨ (¬ (s[n].toNat : Int) < 48 ∧ (57 : Int) < (s[n].toNat : Int)) := by
                      rw [hd2] at hdi
                      by_cases h : (s[n].toNat : Int) < 48
                      · exact .inl h
                      · right; refine ⟨h, ?_⟩; rw [decide_eq_true (show (48 : Int) ≤ (s[n].toNat : Int) by omega)] at hdi; have := hdi.symm; simp at this; omega
                     clear hdi hd hd2 HQ HR3
                     rcases f1 with f1 | ⟨f1, f2⟩
                     all_goals
                      go_wp2
                      exact bodyPost_ret (results_tmp3 rfl _ _ _) rfl (NuP.none_ HR4.out)
                 · have c1 : ¬ (n : Int) < (s.size : Int) := by omega
                   have HR4 : Hid (some ([45] ++ X, (LA s).drop (k + 1)) = R) := by
                    have h1 := HR3.out
                    rw [HQ.out, la_end hng, List.all_nil, if_pos rfl] at h1
                    exact h1
                   have b1 : (0 : Int) ≤ (k : Int) ∧ (k : Int) ≤ (s.size : Int) := by omega
                   have b2 : (0 : Int) ≤ (k : Int) + 1 ∧ (k : Int) + 1 ≤ (s.size : Int) := by omega
                   have b3 : (0 : Int) ≤ (k : Int) := by omega
                   have b4 : (k : Int) ≤ (s.size : Int) := by omega
                   have b5 : (k : Int) + 1 ≤ (s.size : Int) := by omega
                   have b6 : (0 : Int) ≤ (k : Int) + 1 := by omega
                   have hw1 : IntKind.i64.wrap ((k : Int) + 1) = (k : Int) + 1 := IntWalk.i64_in _ (by omega)
                   have hn1 : ((k : Int) + 1).toNat = k + 1 := by omega
                   clear HQ HR3 hng
                   go_wp2_with fail
                   go_quiet (fail)
                   clear hw1 hn1
                   go_wp2
                   exact bodyPost_ret (results_tmp3 rfl _ _ _) rfl (NuP.some_ HR4.out (ext_minus h0 H45.out (by omega) HX.out) (ba_of (la_extract (show k + 1 ≤ s.size from hlt))) ⟨nq, rfl⟩)
            · have e6 : ((s[k].toNat : Int) != 47) = true := (byte_ne (a := s[k]) (b := 47)).trans (bne_iff_ne.2 h47)
              have HR2 : Hid (none = R) := by
               have := HR.out
               rw [if_neg (fun h => h47 h.1)] at this
               exact this
              clear h47 HR
              rcases e4 with e4 | ⟨e4, e5⟩
              all_goals
               go_wp2
               exact bodyPost_ret (results_tmp3 rfl _ _ _) rfl (NuP.none_ HR2.out)
      · have d1 : ¬ (k : Int) < (s.size : Int) := by omega
        have hks : k = s.size := by omega
        obtain ⟨hX, hD⟩ := HA.out.last hks
        subst hD
        by_cases hki : k = 1
        · have hX0 : X = [] := by
           rw [hki, ext_nil] at hX
           exact hX.symm
          have HR : Hid (none = R) := by
           have := HN.out
           unfold numXD at this
           rw [if_pos hX0] at this
           exact this
          have d3 : ((k : Int) == 1) = true := by rw [hki]; rfl
          clear hX0 HN hX hki hks HA
          go_wp2
          exact bodyPost_ret (results_tmp3 rfl _ _ _) rfl (NuP.none_ HR.out)
        · have hX0 := ext_ne hX (show 1 < k by omega) hk
          have HR : Hid (some (LA s, [49]) = R) := by
           have := HN.out
           unfold numXD at this
           rw [if_neg hX0] at this
           exact this
          have d3 : ((k : Int) == 1) = false := by rw [beq_eq_false_iff_ne]; omega
          have d4 : ((k : Int) == (s.size : Int)) = true := by rw [beq_iff_eq]; omega
          clear hX0 HN hX hki hks HA
          go_wp2
          exact bodyPost_ret (results_tmp3 rfl _ _ _) rfl (NuP.some_ HR.out rfl rfl ⟨0, rfl⟩)
   · have hM := isM_cons (l := (LA s).drop 1) h45
     rw [← hl] at hM
     rw [hM.1, hM.2] at hR
     have HN : Hid (numXD s [] (((LA s).drop 0).takeWhile digU) (((LA s).drop 0).dropWhile digU) = R) := hR
     have e0 : ((s[0].toNat : Int) == 45) = false := int_ne 45 h45
     clear hR hl hM h45
     have HA0 := Lib.hid (NuA.start s 0)
     generalize ((LA s).drop 0).takeWhile digU = X at HN HA0
     generalize ((LA s).drop 0).dropWhile digU = D at HN HA0
     go_enter Tryz.func54, Tryz.ntmps54
     go_wp2_with fail
     go_loop [6] (fun v => ∃ k : Nat, 0 ≤ k ∧ k ≤ s.size ∧ v = .int .i64 (k : Int) ∧ Hid (NuA s 0 X D k)) (fun v => s.size - (intOf v).toNat)
     case atStart => exact ⟨0, Nat.le_refl _, by omega, rfl, HA0⟩
     case round =>
      clear HA0
      obtain ⟨k, hik, hk, rfl, HA⟩ := hrel
      rcases Nat.lt_or_ge k s.size with hlt | hge
      · have d1 : (k : Int) < (s.size : Int) := by omega
        have d2 : (0 : Int) ≤ (k : Int) ∧ (k : Int) < (s.size : Int) := by omega
        have hdi := digU_int s[k]
        by_cases hd : digU s[k] = true
        · have e1 : (48 : Int) ≤ (s[k].toNat : Int) ∧ (s[k].toNat : Int) ≤ 57 := by rw [hd] at hdi; simpa using hdi.symm
          have e2 := e1.1
          have e3 := e1.2
          have HA2 := Lib.hid (HA.out.step hik hlt hd)
          clear hdi hd e1 HA
          go_wp2
          go_round
          case rel => exact ⟨k + 1, by omega, hlt, by go_num, HA2⟩
          case measure => simp [intOf]; omega
        · have hd2 : digU s[k] = false := by simpa using hd
          obtain ⟨hX, hD⟩ := HA.out.stop hlt hd2
          have e4 : ¬ (48 : Int) ≤ (s[k].toNat : Int) ∨ ((48 : Int) ≤ (s[k].toNat : Int) ∧ ¬ (s[k].toNat : Int) ≤ 57) := by
           rw [hd2] at hdi
           by_cases h : (48 : Int) ≤ (s[k].toNat : Int)
           · right; refine ⟨h, ?_⟩; rw [decide_eq_true h] at hdi; simpa using hdi.symm
           · exact .inl h
          subst hD
          have HX := Lib.hid hX
          clear hdi hd hd2 hX HA
          by_cases hki : k = 0
          · have hX0 : X = [] := by
             have := HX.out
             rw [hki, ext_nil] at this
             exact this.symm
            have HR : Hid (none = R) := by
             have := HN.out
             unfold numXD at this
             rw [if_pos hX0] at this
             exact this
            have d3 : ((k : Int) == 0) = true := by rw [hki]; rfl
            clear hX0 HN HX hki
            rcases e4 with e4 | ⟨e4, e5⟩
            all_goals
             go_wp2
             exact bodyPost_ret (results_tmp3 rfl _ _ _) rfl (NuP.none_ HR.out)
          · have hX0 := ext_ne HX.out (show 0 < k by omega) hk
            have HR : Hid ((if s[k] = 47 ∧ isDigL ((LA s).drop (k + 1)) = true then some ([] ++ X, (LA s).drop (k + 1)) else none) = R) := by
             have := HN.out
             unfold numXD at this
             rw [if_neg hX0] at this
             exact this
            have d3 : ((k : Int) == 0) = false := by rw [beq_eq_false_iff_ne]; omega
            have d4 : ((k : Int) == (s.size : Int)) = false := by rw [beq_eq_false_iff_ne]; omega
            clear hX0 HN hki
            by_cases h47 : s[k] = 47
            · have e6 : ((s[k].toNat : Int) != 47) = false := by rw [h47]; rfl
              have e7 : ¬ (48 : Int) ≤ (s[k].toNat : Int) := by rw [h47]; decide
              have HR2 : Hid ((if isDigL ((LA s).drop (k + 1)) = true then some ([] ++ X, (LA s).drop (k + 1)) else none) = R) := by
               have := HR.out
               show _ = _
               rw [← this]
               by_cases hB : isDigL ((LA s).drop (k + 1)) = true
               · rw [if_pos hB, if_pos ⟨h47, hB⟩]
               · rw [if_neg hB, if_neg (fun h => hB h.2)]
              clear h47 HR e4
              by_cases hk1 : k + 1 = s.size
              · have d5 : ((k : Int) + 1 == (s.size : Int)) = true := by rw [beq_iff_eq]; omega
                have HR3 : Hid (none = R) := by
                 have := HR2.out
                 rw [la_end (show s.size ≤ k + 1 by omega), if_neg (by simp [isDigL])] at this
                 exact this
                clear hk1 HR2
                go_wp2
                exact bodyPost_ret (results_tmp3 rfl _ _ _) rfl (NuP.none_ HR3.out)
              · have d5 : ((k : Int) + 1 == (s.size : Int)) = false := by rw [beq_eq_false_iff_ne]; omega
                have hne : (LA s).drop (k + 1) ≠ [] := by
                 intro h
                 have := congrArg List.length h
                 rw [List.length_drop, la_length] at this
                 simp at this
                 omega
                have HR3 : Hid ((if ((LA s).drop (k + 1)).all digU = true then some ([] ++ X, (LA s).drop (k + 1)) else none) = R) := by
                 have := HR2.out
                 unfold isDigL at this
                 rw [show ((LA s).drop (k + 1)).isEmpty = false by cases h : (LA s).drop (k + 1); exact absurd h hne; rfl] at this
                 exact this
                clear hne HR2 hk1
                go_wp2_with fail
                go_loop [7] (fun v => ∃ n : Nat, k + 1 ≤ n ∧ n ≤ s.size ∧ v = .int .i64 (n : Int) ∧ Hid (((LA s).drop (k + 1)).all digU = ((LA s).drop n).all digU)) (fun v => s.size - (intOf v).toNat)
                case atStart => exact ⟨k + 1, Nat.le_refl _, hlt, by go_num, Lib.hid rfl⟩
                case round =>
                 obtain ⟨n, hkn, hn, rfl, HQ⟩ := hrel
                 rcases Nat.lt_or_ge n s.size with hnl | hng
                 · have c1 : (n : Int) < (s.size : Int) := by omega
                   have c2 : (0 : Int) ≤ (n : Int) ∧ (n : Int) < (s.size : Int) := by omega
                   have hdi := digU_int s[n]
                   by_cases hd : digU s[n] = true
                   · have f1 : (48 : Int) ≤ (s[n].toNat : Int) ∧ (s[n].toNat : Int) ≤ 57 := by rw [hd] at hdi; simpa using hdi.symm
                     have f2 : ¬ (s[n].toNat : Int) < 48 := by omega
                     have f3 : ¬ (57 : Int) < (s[n].toNat : Int) := by omega
                     have HQ2 : Hid (((LA s).drop (k + 1)).all digU = ((LA s).drop (n + 1)).all digU) := by
                      show _ = _
                      rw [HQ.out, la_drop hnl, List.all_cons, hd, Bool.true_and]
                     clear hdi hd f1 HQ
                     go_wp2
                     go_round
                     case rel => exact ⟨n + 1, by omega, hnl, by go_num, HQ2⟩
                     case measure => simp [intOf]; omega
                   · have hd2 : digU s[n] = false := by simpa using hd
                     have HR4 : Hid (none = R) := by
                      have h1 := HR3.out
                      rw [HQ.out, la_drop hnl, List.all_cons, hd2, Bool.false_and, if_neg (by simp)] at h1
                      exact h1
                     have f1 : (s[n].toNat : Int) < 48 ∨ (¬ (s[n].toNat : Int) < 48 ∧ (57 : Int) < (s[n].toNat : Int)) := by
                      rw [hd2] at hdi
                      by_cases h : (s[n].toNat : Int) < 48
                      · exact .inl h
                      · right; refine ⟨h, ?_⟩; rw [decide_eq_true (show (48 : Int) ≤ (s[n].toNat : Int) by omega)] at hdi; have := hdi.symm; simp at this; omega
                     clear hdi hd hd2 HQ HR3
                     rcases f1 with f1 | ⟨f1, f2⟩
                     all_goals
                      go_wp2
                      exact bodyPost_ret (results_tmp3 rfl _ _ _) rfl (NuP.none_ HR4.out)
                 · have c1 : ¬ (n : Int) < (s.size : Int) := by omega
                   have HR4 : Hid (some ([] ++ X, (LA s).drop (k + 1)) = R) := by
                    have h1 := HR3.out
                    rw [HQ.out, la_end hng, List.all_nil, if_pos rfl] at h1
                    exact h1
                   have b1 : (0 : Int) ≤ (k : Int) ∧ (k : Int) ≤ (s.size : Int) := by omega
                   have b2 : (0 : Int) ≤ (k : Int) + 1 ∧ (k : Int) + 1 ≤ (s.size : Int) := by omega
                   have b3 : (0 : Int) ≤ (k : Int) := by omega
                   have b4 : (k : Int) ≤ (s.size : Int) := by omega
                   have b5 : (k : Int) + 1 ≤ (s.size : Int) := by omega
                   have b6 : (0 : Int) ≤ (k : Int) + 1 := by omega
                   have hw1 : IntKind.i64.wrap ((k : Int) + 1) = (k : Int) + 1 := IntWalk.i64_in _ (by omega)
                   have hn1 : ((k : Int) + 1).toNat = k + 1 := by omega
                   clear HQ HR3 hng
                   go_wp2_with fail
                   go_quiet (fail)
                   clear hw1 hn1
                   go_wp2
                   exact bodyPost_ret (results_tmp3 rfl _ _ _) rfl (NuP.some_ HR4.out (ext_front HX.out) (ba_of (la_extract (show k + 1 ≤ s.size from hlt))) ⟨nq, rfl⟩)
            · have e6 : ((s[k].toNat : Int) != 47) = true := (byte_ne (a := s[k]) (b := 47)).trans (bne_iff_ne.2 h47)
              have HR2 : Hid (none = R) := by
               have := HR.out
               rw [if_neg (fun h => h47 h.1)] at this
               exact this
              clear h47 HR
              rcases e4 with e4 | ⟨e4, e5⟩
              all_goals
               go_wp2
               exact bodyPost_ret (results_tmp3 rfl _ _ _) rfl (NuP.none_ HR2.out)
      · have d1 : ¬ (k : Int) < (s.size : Int) := by omega
        have hks : k = s.size := by omega
        obtain ⟨hX, hD⟩ := HA.out.last hks
        subst hD
        by_cases hki : k = 0
        · have hX0 : X = [] := by
           rw [hki, ext_nil] at hX
           exact hX.symm
          have HR : Hid (none = R) := by
           have := HN.out
           unfold numXD at this
           rw [if_pos hX0] at this
           exact this
          have d3 : ((k : Int) == 0) = true := by rw [hki]; rfl
          clear hX0 HN hX hki hks HA
          go_wp2
          exact bodyPost_ret (results_tmp3 rfl _ _ _) rfl (NuP.none_ HR.out)
        · have hX0 := ext_ne hX (show 0 < k by omega) hk
          have HR : Hid (some (LA s, [49]) = R) := by
           have := HN.out
           unfold numXD at this
           rw [if_neg hX0] at this
           exact this
          have d3 : ((k : Int) == 0) = false := by rw [beq_eq_false_iff_ne]; omega
          have d4 : ((k : Int) == (s.size : Int)) = true := by rw [beq_iff_eq]; omega
          clear hX0 HN hX hki hks HA
          go_wp2
          exact bodyPost_ret (results_tmp3 rfl _ _ _) rfl (NuP.some_ HR.out rfl rfl ⟨0, rfl⟩)
def plainD (pre r : List UInt8) : List UInt8 := match r with
 | [] => [48]
 | c :: q => pre ++ c :: q
def plainL (l : List UInt8) : List UInt8 := plainD (if isM l then [45] else []) ((afterM l).dropWhile (· == 48))
theorem plain_digits {y : List UInt8} (h : isM y = false) (h2 : afterM y = y) : plainL y = decL y := by
 unfold plainL decL
 rw [h, h2]
 cases y.dropWhile (· == 48) <;> rfl
theorem dig_digU (c : UInt8) : isDig c = digU c := by
 have h : ((List.range 256).all fun n => isDig (UInt8.ofNat n) == digU (UInt8.ofNat n)) = true := by kernel_rfl
 have := List.all_eq_true.1 h c.toNat (List.mem_range.2 c.toNat_lt)
 rw [UInt8.ofNat_toNat] at this
 exact eq_of_beq this
theorem dropW_head {l : List UInt8} {c : UInt8} {q : List UInt8} (h : l.dropWhile (· == 48) = c :: q) : c ≠ 48 := by
 have := List.head?_dropWhile_not (fun x : UInt8 => x == 48) l
 rw [h] at this
 simpa using this
theorem good_of_drop {X : List UInt8} (hX : X.all digU = true) {c : UInt8} {q : List UInt8} (h : X.dropWhile (· == 48) = c :: q) : goodDigits (c :: q) = true := by
 have hs : ∀ x ∈ c :: q, digU x = true := fun x hx => List.all_eq_true.1 hX x ((List.dropWhile_sublist _).subset (h ▸ hx))
 have h1 := hs c (by simp)
 show ((c != 48) && isDig c && q.all isDig) = true
 rw [dig_digU, h1, Bool.and_true, bne_iff_ne.2 (dropW_head h), Bool.true_and, List.all_eq_true]
 exact fun x hx => by rw [dig_digU]; exact hs x (by simp [hx])
theorem minus_text {r : List UInt8} (h : goodDigits r = true) : text (-(val r)) = 45 :: r := by
 have hm : isMinus (45 :: r) = true := rfl
 have hs : strip (45 :: r) = r := strip_minus r
 have hv : valid (45 :: r) = true := by
  unfold valid
  rw [hs, h, Bool.or_true]
 have hvr : valid r = true := by
  unfold valid
  rw [strip_good h, h, Bool.or_true]
 have hnr : neg r = false := by
  unfold neg
  rw [isMinus_of_good h, Bool.and_false]
 have h1 : val (45 :: r) = -(val r) := by
  unfold val
  rw [hnr, show neg (45 :: r) = true by unfold neg; rw [hv, hm]; rfl]
  show -(mag (45 :: r) : Int) = -(mag r : Int)
  unfold mag body
  rw [hv, hvr, hs, strip_good h]
 rw [← h1, text_val hv]
theorem plain_num (b : Bool) (X : List UInt8) (hX : isDigL X = true) : plainD (if b then [45] else []) (X.dropWhile (· == 48)) = negS b (decL X) := by
 have ha : X.all digU = true := by
  unfold isDigL at hX
  rw [Bool.and_eq_true] at hX
  exact hX.2
 unfold decL negS
 cases h : X.dropWhile (· == 48) with
 | nil =>
  cases b
  · rfl
  · have h48 : text (-(val [48])) = [48] := by kernel_rfl
    exact h48.symm
 | cons c q =>
  cases b
  · rfl
  · exact (minus_text (good_of_drop ha h)).symm
theorem isM_dig {X : List UInt8} (h : isDigL X = true) : isM X = false ∧ afterM X = X := by
 cases X with
 | nil => exact absurd h (by decide)
 | cons c q =>
  refine isM_cons fun hc => ?_
  subst hc
  unfold isDigL at h
  rw [Bool.and_eq_true, List.all_cons, Bool.and_eq_true] at h
  exact absurd h.2.1 (by decide)
theorem plain_both {w : List UInt8} {b : Bool} {x y : List UInt8} (h : numL w = some (b, x, y)) : plainL ((if b then [45] else []) ++ x) = negS b (decL x) ∧ plainL y = decL y := by
 unfold numL at h
 split at h
 · rename_i hd
   rw [Bool.and_eq_true] at hd
   simp at h
   rw [← h.1, ← h.2.1, ← h.2.2]
   have h1 := isM_dig hd.1
   have h2 := isM_dig hd.2
   refine ⟨?_, plain_digits h2.1 h2.2⟩
   rw [← plain_num _ _ hd.1]
   unfold plainL
   cases isM w
   · show plainD (if isM (cutL (afterM w)).1 then [45] else []) _ = _
     rw [h1.1]
     show plainD _ ((afterM (cutL (afterM w)).1).dropWhile _) = _
     rw [h1.2]
   · rfl
 · simp at h
def ZeR (s : ByteArray) (D : List UInt8) (k : Nat) : Prop := ((LA s).drop k).dropWhile (· == 48) = D
theorem app_bytes (a b : ByteArray) : (a ++ b).data.toList = a.data.toList ++ b.data.toList := by
 rw [ByteArray.data_append, Array.toList_append]
set_option maxHeartbeats 8000000 in
set_option maxRecDepth 100000 in
theorem plainR (s : ByteArray) (hs : s.size ≤ 7000) (w : World) : Calls Tryz.prog 55 #[.string s] w (fun e w' => e = .returned (.string (BA (plainL (LA s)))) ∧ w = w') := by
 obtain ⟨R, hR⟩ : ∃ R, plainL (LA s) = R := ⟨_, rfl⟩
 rw [hR]
 unfold plainL at hR
 rcases Nat.eq_zero_or_pos s.size with h0 | h0
 · have hl : LA s = [] := List.eq_nil_of_length_eq_zero (by rw [la_length, h0])
   rw [hl] at hR
   have HR : Hid ([48] = R) := hR
   have a1 : (s.size : Int) = 0 := by omega
   have a2 : ¬ (0 : Int) < (s.size : Int) := by omega
   clear hR hl
   go_enter Tryz.func55, Tryz.ntmps55
   go_wp2_with fail
   go_loop [4] (fun v => v = .int .i64 0) (fun v => 0)
   case atStart => rfl
   case round =>
    obtain rfl := hrel
    go_wp2
    go_ret
    exact ⟨by rw [← HR.out]; rfl, rfl⟩
 · have hl := la_drop h0
   rw [List.drop_zero] at hl
   have a2 : (0 : Int) < (s.size : Int) := by omega
   have a3 : (0 : Int) ≤ (0 : Int) ∧ (0 : Int) < (s.size : Int) := by omega
   by_cases h45 : s[0] = 45
   · have hM : isM (LA s) = true ∧ afterM (LA s) = (LA s).drop 1 := by
      rw [hl, h45]
      exact ⟨rfl, rfl⟩
     rw [hM.1, hM.2] at hR
     obtain ⟨D, hD⟩ : ∃ D, ((LA s).drop 1).dropWhile (· == 48) = D := ⟨_, rfl⟩
     rw [hD] at hR
     have HD : Hid (ZeR s D 1) := hD
     have HR : Hid (plainD [45] D = R) := hR
     have e0 : ((s[0].toNat : Int) == 45) = true := int_eq 45 h45
     clear hR hl hM h45 hD
     go_enter Tryz.func55, Tryz.ntmps55
     go_wp2_with fail
     go_loop [4] (fun v => ∃ k : Nat, 1 ≤ k ∧ k ≤ s.size ∧ v = .int .i64 (k : Int) ∧ Hid (ZeR s D k)) (fun v => s.size - (intOf v).toNat)
     case atStart => exact ⟨1, Nat.le_refl _, by omega, rfl, HD⟩
     case round =>
      clear HD
      obtain ⟨k, hik, hk, rfl, HD⟩ := hrel
      rcases Nat.lt_or_ge k s.size with hlt | hge
      · have d1 : (k : Int) < (s.size : Int) := by omega
        have d2 : (0 : Int) ≤ (k : Int) ∧ (k : Int) < (s.size : Int) := by omega
        have hD := HD.out
        unfold ZeR at hD
        rw [la_drop hlt, List.dropWhile_cons] at hD
        by_cases h48 : s[k] = 48
        · have e1 : ((s[k].toNat : Int) == 48) = true := int_eq 48 h48
          rw [if_pos (beq_iff_eq.2 h48)] at hD
          have HD2 : Hid (ZeR s D (k + 1)) := hD
          clear hD h48 HD
          go_wp2
          go_round
          case rel => exact ⟨k + 1, by omega, hlt, by go_num, HD2⟩
          case measure => simp [intOf]; omega
        · have e1 : ((s[k].toNat : Int) == 48) = false := int_ne 48 h48
          rw [if_neg (fun h => h48 (beq_iff_eq.1 h))] at hD
          have d4 : ((k : Int) == (s.size : Int)) = false := by rw [beq_eq_false_iff_ne]; omega
          have b1 : (0 : Int) ≤ (k : Int) ∧ (k : Int) ≤ (s.size : Int) := by omega
          have HR2 : Hid ((⟨#[45]⟩ ++ s.extract k s.size : ByteArray) = BA R) := by
           have h1 := HR.out
           rw [← hD] at h1
           refine ba_of ?_
           rw [← h1]
           show (ByteArray.append ⟨#[45]⟩ (s.extract k s.size)).data.toList = _
           have h2 := la_extract (show k ≤ s.size from hk)
           rw [la_drop hlt] at h2
           show _ = [45] ++ (s[k] :: (LA s).drop (k + 1))
           rw [← h2]
           exact app_bytes _ _
          clear hD h48 HD HR
          go_wp2_with fail
          go_ret
          exact ⟨congrArg (fun x => Ending.returned (Value.string x)) HR2.out, rfl⟩
      · have d1 : ¬ (k : Int) < (s.size : Int) := by omega
        have d4 : ((k : Int) == (s.size : Int)) = true := by rw [beq_iff_eq]; omega
        have hD := HD.out
        unfold ZeR at hD
        rw [la_end hge] at hD
        have HR2 : Hid ([48] = R) := by
         have h1 := HR.out
         rw [← hD] at h1
         exact h1
        clear hD HD HR hge
        go_wp2
        go_ret
        exact ⟨by rw [← HR2.out]; rfl, rfl⟩
   · have hM := isM_cons (l := (LA s).drop 1) h45
     rw [← hl] at hM
     rw [hM.1, hM.2] at hR
     obtain ⟨D, hD⟩ : ∃ D, (LA s).dropWhile (· == 48) = D := ⟨_, rfl⟩
     rw [hD] at hR
     have HD : Hid (ZeR s D 0) := hD
     have HR : Hid (plainD [] D = R) := hR
     have e0 : ((s[0].toNat : Int) == 45) = false := int_ne 45 h45
     clear hR hl hM h45 hD
     go_enter Tryz.func55, Tryz.ntmps55
     go_wp2_with fail
     go_loop [4] (fun v => ∃ k : Nat, 0 ≤ k ∧ k ≤ s.size ∧ v = .int .i64 (k : Int) ∧ Hid (ZeR s D k)) (fun v => s.size - (intOf v).toNat)
     case atStart => exact ⟨0, Nat.le_refl _, by omega, rfl, HD⟩
     case round =>
      clear HD
      obtain ⟨k, hik, hk, rfl, HD⟩ := hrel
      rcases Nat.lt_or_ge k s.size with hlt | hge
      · have d1 : (k : Int) < (s.size : Int) := by omega
        have d2 : (0 : Int) ≤ (k : Int) ∧ (k : Int) < (s.size : Int) := by omega
        have hD := HD.out
        unfold ZeR at hD
        rw [la_drop hlt, List.dropWhile_cons] at hD
        by_cases h48 : s[k] = 48
        · have e1 : ((s[k].toNat : Int) == 48) = true := int_eq 48 h48
          rw [if_pos (beq_iff_eq.2 h48)] at hD
          have HD2 : Hid (ZeR s D (k + 1)) := hD
          clear hD h48 HD
          go_wp2
          go_round
          case rel => exact ⟨k + 1, by omega, hlt, by go_num, HD2⟩
          case measure => simp [intOf]; omega
        · have e1 : ((s[k].toNat : Int) == 48) = false := int_ne 48 h48
          rw [if_neg (fun h => h48 (beq_iff_eq.1 h))] at hD
          have d4 : ((k : Int) == (s.size : Int)) = false := by rw [beq_eq_false_iff_ne]; omega
          have b1 : (0 : Int) ≤ (k : Int) ∧ (k : Int) ≤ (s.size : Int) := by omega
          have HR2 : Hid (s.extract k s.size = BA R) := by
           have h1 := HR.out
           rw [← hD] at h1
           refine ba_of ?_
           rw [← h1]
           have h2 := la_extract (show k ≤ s.size from hk)
           rw [la_drop hlt] at h2
           exact h2
          clear hD h48 HD HR
          go_wp2_with fail
          go_ret
          exact ⟨congrArg (fun x => Ending.returned (Value.string x)) HR2.out, rfl⟩
      · have d1 : ¬ (k : Int) < (s.size : Int) := by omega
        have d4 : ((k : Int) == (s.size : Int)) = true := by rw [beq_iff_eq]; omega
        have hD := HD.out
        unfold ZeR at hD
        rw [la_end hge] at hD
        have HR2 : Hid ([48] = R) := by
         have h1 := HR.out
         rw [← hD] at h1
         exact h1
        clear hD HD HR hge
        go_wp2
        go_ret
        exact ⟨by rw [← HR2.out]; rfl, rfl⟩
def TR (W : World) (g : Nat) (c : Array Value) : Prop := W.heap[g]? = some (.cells c 65 (0, 0))
theorem TR.lt {W : World} {g : Nat} {c : Array Value} (h : TR W g c) : g < W.heap.size := Sy.blk_ltY h
theorem TR.keep {W W' : World} {g : Nat} {c : Array Value} (h : TR W g c) (hb : Below W.heap.size W W') : TR W' g c := (hb.block g h.lt).trans h
theorem TR.new (w : World) (c : Array Value) : TR (w.alloc (.cells c 65)) w.heap.size c := heap_alloc_new w _
theorem TR.set {W : World} {g : Nat} {c : Array Value} (h : TR W g c) (d : Array Value) : TR (W.setRow g d) g d := setRow_heap _ _ _ _ _ _ h
theorem TR.other {W : World} {g k : Nat} {c d : Array Value} (h : TR W g c) (hk : g ≠ k) : TR (W.setRow k d) g c := (setRow_other W k g d hk).trans h
theorem EB.other {W : World} {g k : Nat} {x y : Value} {d : Array Value} (h : EB W g x y) (hk : g ≠ k) : EB (W.setRow k d) g x y := (setRow_other W k g d hk).trans h
theorem TR.cell {W : World} {g : Nat} {c : Array Value} (h : TR W g c) (k : Nat) (v : Value) : TR (W.setCell ⟨g, k, none⟩ v) g (c.setIfInBounds k v) := by
 unfold TR at h ⊢
 simp [World.setCell, Array.getElem?_modify, h]
theorem TR.ocell {W : World} {g b k : Nat} {c : Array Value} (h : TR W g c) (hb : g ≠ b) (v : Value) : TR (W.setCell ⟨b, k, none⟩ v) g c := (Below.heap_setCell W ⟨b, k, none⟩ v g hb).trans h
theorem EB.ocell {W : World} {g b k : Nat} {x y : Value} (h : EB W g x y) (hb : g ≠ b) (v : Value) : EB (W.setCell ⟨b, k, none⟩ v) g x y := (Below.heap_setCell W ⟨b, k, none⟩ v g hb).trans h
theorem TR.fr {W : World} {g k : Nat} {c : Array Value} (h : TR W g c) : W.frozen? ⟨g, k, none⟩ = false := by
 unfold TR at h
 simp [World.frozen?, h]
theorem TR.at {W : World} {g k : Nat} {c : Array Value} {v : Value} (h : TR W g c) (hv : c[k]? = some v) : W.cell? ⟨g, k, none⟩ = some v := by rw [cell_of_row _ _ _ _ _ _ h]; exact hv
theorem TR.store {ops : Array Oper} {rest : List Oper} {o : Oper} {a : Act} {w : World} {Q : Exit → Act → World → Prop} (x y : Operand) (ho : o.op = .store 65 x y) (hgd : o.guard = none)
 (g : Nat) (t : Tk) (c : Array Value) (hc : c.size = 5) (hx : a.eval x = .pointer (some ⟨g, 0, none⟩)) (hy : a.eval y = tkV t) (hg : TR w g c)
 (h : wpList Tryz.prog ops Q rest (a.put o.dst undef) (w.setRow g (tkC t))) : wpList Tryz.prog ops Q (o :: rest) a w :=
 wpList_store_row hgd 65 x y ho g (tkC t) hx hy 65 c hg (by kernel_rfl) (by rw [hc]; rfl) (by simp [tkC]; exact ⟨rfl, rfl, rfl, rfl, rfl⟩) h
theorem TR.run {w : World} {g : Nat} {t : Tk} (hg : TR w g (tkC t)) : (loadVar 65 ⟨g, 0, none⟩).run Tryz.prog w = .ok (tkV t) w :=
 run_loadVar_row w g 65 65 (tkC t) (0, 0) _ hg Tryz.underlying65 rfl (by kernel_rfl)
theorem TR.load {ops : Array Oper} {rest : List Oper} {o : Oper} {a : Act} {w : World} {Q : Exit → Act → World → Prop} (x : Operand) (ho : o.op = .load 65 x) (hgd : o.guard = none)
 {g : Nat} {t : Tk} (hx : a.eval x = .pointer (some ⟨g, 0, none⟩)) (hg : TR w g (tkC t))
 (h : wpList Tryz.prog ops Q rest (a.put o.dst (tkV t)) w) : wpList Tryz.prog ops Q (o :: rest) a w :=
 wpList_load_row hgd 65 x ho g hx 65 (tkC t) (0, 0) _ hg Tryz.underlying65 rfl (by kernel_rfl) h
theorem EB.load {ops : Array Oper} {rest : List Oper} {o : Oper} {a : Act} {w : World} {Q : Exit → Act → World → Prop} (x : Operand) (ho : o.op = .load 26 x) (hgd : o.guard = none)
 {g : Nat} {u v : Value} (hx : a.eval x = .pointer (some ⟨g, 0, none⟩)) (hg : EB w g u v)
 (h : wpList Tryz.prog ops Q rest (a.put o.dst (.agg #[u, v])) w) : wpList Tryz.prog ops Q (o :: rest) a w :=
 wpList_load_row hgd 26 x ho g hx 26 #[u, v] (0, 0) _ hg Tryz.underlying26 rfl (by kernel_rfl) h
theorem resQ {fn : Func} {r0 r1 r2 : Tmp} {tmps : Array Value} {w : World} {g g' : Nat} {t : Tk} {u v x : Value} (h : fn.results = #[.cell r0 65, .tmp r1, .cell r2 26])
 (h0 : tmps.getD r0 undef = .pointer (some ⟨g, 0, none⟩)) (h1 : tmps.getD r1 undef = x) (h2 : tmps.getD r2 undef = .pointer (some ⟨g', 0, none⟩)) (hT : TR w g (tkC t)) (hg : EB w g' u v) : (results fn tmps).run Tryz.prog w = .ok (.tuple #[tkV t, x, .agg #[u, v]]) w := by
 subst h1
 have h0' : tmps[r0]?.getD undef = .pointer (some ⟨g, 0, none⟩) := by simpa using h0
 have h2' : tmps[r2]?.getD undef = .pointer (some ⟨g', 0, none⟩) := by simpa using h2
 simp [results, h, h0', h2', asAddr, hT.run, hg.run]
def erX {α : Type} : Sc α → Int
 | .ok _ _ => 0
 | .bad x _ => x
def erP {α : Type} : Sc α → Int
 | .ok _ _ => 0
 | .bad _ p => p
set_option maxHeartbeats 8000000 in
set_option maxRecDepth 100000 in
theorem namedR (k p : Int) (q b d : List UInt8) (bars : Bool) (hbar : bars = false → b ≠ []) (w : World) : Calls Tryz.prog 50 #[.agg #[.int .i64 k, .int .i64 p, .string (BA q), .string (BA b), .string (BA d)], .bool bars] w (Sy.RetY w (.agg #[.int .i64 (erX (symT okP p q b [])), .int .i64 (erP (symT okP p q b []))])) := by
 have hsz := ba_len b
 have T0 := Lib.hid ((TR.new w #[.int .i64 k, .int .i64 p, .string (BA q), .string (BA b), .string (BA d)]).keep (Below.alloc (Below.refl _ _) (Nat.le_refl _) (.cells #[.int .i64 0, .int .i64 0] 26)))
 have T1 : Hid (EB ((w.alloc (.cells #[.int .i64 k, .int .i64 p, .string (BA q), .string (BA b), .string (BA d)] 65)).alloc (.cells #[.int .i64 0, .int .i64 0] 26)) (w.heap.size + 1) (.int .i64 0) (.int .i64 0)) := by
  show EB _ _ _ _
  have := EB.new (w.alloc (.cells #[.int .i64 k, .int .i64 p, .string (BA q), .string (BA b), .string (BA d)] 65)) (.int .i64 0) (.int .i64 0)
  simpa using this
 have HB := Lib.hid (al2 w (.cells #[.int .i64 k, .int .i64 p, .string (BA q), .string (BA b), .string (BA d)] 65) (.cells #[.int .i64 0, .int .i64 0] 26))
 have c0 := T0.out.at (k := 0) rfl
 have c1 := T0.out.at (k := 1) rfl
 have c2 := T0.out.at (k := 2) rfl
 have c3 := T0.out.at (k := 3) rfl
 unfold symT
 by_cases h : 40 < b.length
 · rw [if_pos h]
   have h1 : (40 : Int) < (b.length : Int) := by omega
   show Calls _ _ _ _ (Sy.RetY w (.agg #[.int .i64 2, .int .i64 p]))
   clear h hbar
   go_enter Tryz.func50, Tryz.ntmps50
   go_wp2_with fail
   refine (badR 2 p _).mono ?_
   rintro e w5 ⟨rfl, hb⟩
   have HT := Lib.hid (T1.out.keep hb)
   have HB2 := Lib.hid (chain5 HB.out hb)
   clear hb
   go_wp2_with (refine EB.store (.tmp 4) (.tmp 12) rfl rfl (w.heap.size + 1) 2 p _ _ rfl rfl HT.out ?_)
   exact retE rfl rfl (HT.out.set _ _) ⟨rfl, bel_set _ HB2.out (Nat.le_succ _)⟩
 · rw [if_neg h]
   have h1 : ¬ (40 : Int) < (b.length : Int) := by omega
   clear h
   by_cases h2 : b = []
   · rw [if_pos h2]
     have e1 : (BA b).toList.isEmpty = true := by rw [ba_empty]; exact decide_eq_true h2
     have hbt : bars = true := by cases bars; exact absurd h2 (hbar rfl); rfl
     subst hbt
     show Calls _ _ _ _ (Sy.RetY w (.agg #[.int .i64 3, .int .i64 p]))
     clear h2 hbar
     go_enter Tryz.func50, Tryz.ntmps50
     go_wp2_with fail
     refine (badR 3 p _).mono ?_
     rintro e w5 ⟨rfl, hb⟩
     have HT := Lib.hid (T1.out.keep hb)
     have HB2 := Lib.hid (chain5 HB.out hb)
     clear hb
     go_wp2_with (refine EB.store (.tmp 4) (.tmp 33) rfl rfl (w.heap.size + 1) 3 p _ _ rfl rfl HT.out ?_)
     exact retE rfl rfl (HT.out.set _ _) ⟨rfl, bel_set _ HB2.out (Nat.le_succ _)⟩
   · rw [if_neg h2]
     have e1 : (BA b).toList.isEmpty = false := by rw [ba_empty]; exact decide_eq_false h2
     clear h2 hbar
     by_cases h3 : q = []
     · rw [if_neg (fun h => h.1 h3)]
       have e2 : (BA q).toList.isEmpty = true := by rw [ba_empty]; exact decide_eq_true h3
       show Calls _ _ _ _ (Sy.RetY w (.agg #[.int .i64 0, .int .i64 0]))
       clear h3
       cases bars
       all_goals
        go_enter Tryz.func50, Tryz.ntmps50
        go_wp2_with (refine EB.store (.tmp 4) (.tmp 34) rfl rfl (w.heap.size + 1) 0 0 _ _ rfl rfl T1.out ?_)
        exact retE rfl rfl (T1.out.set _ _) ⟨rfl, bel_set _ HB.out (Nat.le_succ _)⟩
     · have e2 : (BA q).toList.isEmpty = false := by rw [ba_empty]; exact decide_eq_false h3
       cases h4 : okP q with
       | false =>
        rw [if_pos ⟨h3, rfl⟩]
        have HO : Hid (Sy.pkgOk (BA q) = false) := h4
        show Calls _ _ _ _ (Sy.RetY w (.agg #[.int .i64 3, .int .i64 p]))
        clear h3 h4
        cases bars
        all_goals
         go_enter Tryz.func50, Tryz.ntmps50
         go_wp2_with fail
         refine (Sy.validPR (BA q) _).mono ?_
         rintro e w3 ⟨rfl, hb⟩
         rw [HO.out]
         replace T1 := Lib.hid (T1.out.keep hb)
         replace T0 := Lib.hid (T0.out.keep hb)
         replace HB := Lib.hid (chain5 HB.out hb)
         clear hb c0 c1 c2 c3
         have c1 := T0.out.at (k := 1) rfl
         go_wp2_with fail
         refine (badR 3 p _).mono ?_
         rintro e w5 ⟨rfl, hb⟩
         have HT := Lib.hid (T1.out.keep hb)
         have HB2 := Lib.hid (chain5 HB.out hb)
         clear hb
         go_wp2_with (refine EB.store (.tmp 4) (.tmp 33) rfl rfl (w.heap.size + 1) 3 p _ _ rfl rfl HT.out ?_)
         exact retE rfl rfl (HT.out.set _ _) ⟨rfl, bel_set _ HB2.out (Nat.le_succ _)⟩
       | true =>
        rw [if_neg (fun h => absurd h.2 (by simp))]
        have HO : Hid (Sy.pkgOk (BA q) = true) := h4
        show Calls _ _ _ _ (Sy.RetY w (.agg #[.int .i64 0, .int .i64 0]))
        clear h3 h4
        cases bars
        all_goals
         go_enter Tryz.func50, Tryz.ntmps50
         go_wp2_with fail
         refine (Sy.validPR (BA q) _).mono ?_
         rintro e w3 ⟨rfl, hb⟩
         rw [HO.out]
         replace T1 := Lib.hid (T1.out.keep hb)
         replace T0 := Lib.hid (T0.out.keep hb)
         replace HB := Lib.hid (chain5 HB.out hb)
         clear hb c0 c1 c2 c3
         have c1 := T0.out.at (k := 1) rfl
         go_wp2_with (refine EB.store (.tmp 4) (.tmp 34) rfl rfl (w.heap.size + 1) 0 0 _ _ rfl rfl T1.out ?_)
         exact retE rfl rfl (T1.out.set _ _) ⟨rfl, bel_set _ HB.out (Nat.le_succ _)⟩
structure Q3 (w W : World) (t u : Tk) (x y : Int) : Prop where
 bel : Below w.heap.size w W
 b0 : TR W w.heap.size (tkC t)
 b1 : TR W (w.heap.size + 1) (tkC u)
 b2 : EB W (w.heap.size + 2) (.int .i64 x) (.int .i64 y)
theorem Q3.new (w : World) (t u : Tk) (x y : Int) : Q3 w (((w.alloc (.cells (tkC t) 65)).alloc (.cells (tkC u) 65)).alloc (.cells #[.int .i64 x, .int .i64 y] 26)) t u x y := by
 have s1 : (w.alloc (.cells (tkC t) 65)).heap.size = w.heap.size + 1 := by simp
 have s2 : ((w.alloc (.cells (tkC t) 65)).alloc (.cells (tkC u) 65)).heap.size = w.heap.size + 2 := by simp
 have k2 := Below.alloc (Below.refl ((w.alloc (.cells (tkC t) 65)).alloc (.cells (tkC u) 65)).heap.size _) (Nat.le_refl _) (.cells #[.int .i64 x, .int .i64 y] 26)
 have k1 := Below.alloc (Below.refl (w.alloc (.cells (tkC t) 65)).heap.size _) (Nat.le_refl _) (.cells (tkC u) 65)
 have k0 := Below.alloc (Below.refl w.heap.size w) (Nat.le_refl _) (.cells (tkC t) 65)
 refine ⟨chain5 (chain5 k0 k1) k2, ((TR.new _ _).keep k1).keep k2, ?_, ?_⟩
 · have := (TR.new (w.alloc (.cells (tkC t) 65)) (tkC u)).keep k2
   rwa [s1] at this
 · have := EB.new ((w.alloc (.cells (tkC t) 65)).alloc (.cells (tkC u) 65)) (.int .i64 x) (.int .i64 y)
   rwa [s2] at this
theorem Q3.keep {w W W' : World} {t u : Tk} {x y : Int} (h : Q3 w W t u x y) (hb : Below W.heap.size W W') : Q3 w W' t u x y := ⟨chain5 h.bel hb, h.b0.keep hb, h.b1.keep hb, h.b2.keep hb⟩
theorem below_set5 {B : Nat} (W : World) (g k : Nat) (v : Value) (hB : B ≤ g) : Below B W (W.setCell ⟨g, k, none⟩ v) := (Below.refl B W).setCell hB v
theorem Q3.drew {w W : World} {t u : Tk} {x y : Int} (h : Q3 w W t u x y) : Q3 w W.drew t u x y := h.keep ((Below.refl _ _).drew)
theorem Q3.cell {w W : World} {t t' u : Tk} {x y : Int} (h : Q3 w W t u x y) (k : Nat) (v : Value) (ht : (tkC t).setIfInBounds k v = tkC t') : Q3 w (W.setCell ⟨w.heap.size, k, none⟩ v) t' u x y :=
 ⟨h.bel.trans (below_set5 W _ _ _ (Nat.le_refl _)), ht ▸ h.b0.cell k v, h.b1.ocell (by omega) v, h.b2.ocell (by omega) v⟩
theorem TR.all {W : World} {g : Nat} {t : Tk} (h : TR W g (tkC t)) : W.cell? ⟨g, 0, none⟩ = some (.int .i64 t.k) ∧ W.cell? ⟨g, 1, none⟩ = some (.int .i64 t.p) ∧ W.cell? ⟨g, 2, none⟩ = some (.string (BA t.pkg)) ∧ W.cell? ⟨g, 3, none⟩ = some (.string (BA t.txt)) ∧ W.cell? ⟨g, 4, none⟩ = some (.string (BA t.den)) :=
 ⟨h.at rfl, h.at rfl, h.at rfl, h.at rfl, h.at rfl⟩
theorem TR.frs {W : World} {g : Nat} {t : Tk} (h : TR W g (tkC t)) : W.frozen? ⟨g, 0, none⟩ = false ∧ W.frozen? ⟨g, 1, none⟩ = false ∧ W.frozen? ⟨g, 2, none⟩ = false ∧ W.frozen? ⟨g, 3, none⟩ = false ∧ W.frozen? ⟨g, 4, none⟩ = false :=
 ⟨h.fr, h.fr, h.fr, h.fr, h.fr⟩
def OutQ (w : World) (s : ByteArray) (R : Sc Tk) (e : Ending) (w' : World) : Prop := Below w.heap.size w w' ∧ match R with
 | .ok t r => ∃ j : Nat, j ≤ s.size ∧ (LA s).drop j = r ∧ e = .returned (.tuple #[tkV t, .int .i64 (j : Int), .agg #[.int .i64 0, .int .i64 0]])
 | .bad x p => ∃ (t : Tk) (j : Int), e = .returned (.tuple #[tkV t, .int .i64 j, .agg #[.int .i64 x, .int .i64 p]])
def finW (W : World) (g : Nat) (t : Tk) (a b : Int) : World :=
 ((((((W.setCell ⟨g + 1, 0, none⟩ (.int .i64 t.k)).setCell ⟨g + 1, 1, none⟩ (.int .i64 t.p)).setCell ⟨g + 1, 2, none⟩ (.string (BA t.pkg))).setCell ⟨g + 1, 3, none⟩ (.string (BA t.txt))).setCell ⟨g + 1, 4, none⟩ (.string (BA t.den))).setCell ⟨g + 2, 0, none⟩ (.int .i64 a)).setCell ⟨g + 2, 1, none⟩ (.int .i64 b)
theorem finW_spec {w W : World} {t u : Tk} {x y : Int} (h : Q3 w W t u x y) (t' : Tk) (a b : Int) : TR (finW W w.heap.size t' a b) (w.heap.size + 1) (tkC t') ∧ EB (finW W w.heap.size t' a b) (w.heap.size + 2) (.int .i64 a) (.int .i64 b) ∧ Below w.heap.size w (finW W w.heap.size t' a b) := by
 unfold finW
 refine ⟨?_, ?_, ?_⟩
 · exact TR.ocell (TR.ocell (TR.cell (TR.cell (TR.cell (TR.cell (TR.cell h.b1 0 _) 1 _) 2 _) 3 _) 4 _) (by omega) _) (by omega) _
 · exact EB.cell2 (EB.ocell (EB.ocell (EB.ocell (EB.ocell (EB.ocell h.b2 (by omega) _) (by omega) _) (by omega) _) (by omega) _) (by omega) _) _ _
 · exact (((((((h.bel.setCell (by simp) _).setCell (by simp) _).setCell (by simp) _).setCell (by simp) _).setCell (by simp) _).setCell (by simp) _).setCell (by simp) _)
theorem retQ {fn : Func} {r0 r1 r2 : Tmp} {tmps : Array Value} {w W : World} {t u : Tk} {x y : Int} {v : Value} {Q : Ending → World → Prop} (hQ3 : Q3 w W t u x y) (t' : Tk) (a b : Int) (h : fn.results = #[.cell r0 65, .tmp r1, .cell r2 26])
 (h0 : tmps.getD r0 undef = .pointer (some ⟨w.heap.size + 1, 0, none⟩)) (h1 : tmps.getD r1 undef = v) (h2 : tmps.getD r2 undef = .pointer (some ⟨w.heap.size + 2, 0, none⟩))
 (hR : Below w.heap.size w (finW W w.heap.size t' a b) → Q (.returned (.tuple #[tkV t', v, .agg #[.int .i64 a, .int .i64 b]])) (finW W w.heap.size t' a b)) : bodyPost Tryz.prog fn Q Exit.ret ⟨tmps, []⟩ (finW W w.heap.size t' a b) := by
 obtain ⟨k1, k2, k3⟩ := finW_spec hQ3 t' a b
 exact bodyPost_ret (resQ h h0 h1 h2 k1 k2) rfl (hR k3)
theorem retQd {fn : Func} {r0 r1 r2 : Tmp} {tmps : Array Value} {w W : World} {t u : Tk} {x y : Int} {v : Value} {Q : Ending → World → Prop} (hQ3 : Q3 w W t u x y) (t' : Tk) (a b : Int) (h : fn.results = #[.cell r0 65, .tmp r1, .cell r2 26])
 (h0 : tmps.getD r0 undef = .pointer (some ⟨w.heap.size + 1, 0, none⟩)) (h1 : tmps.getD r1 undef = v) (h2 : tmps.getD r2 undef = .pointer (some ⟨w.heap.size + 2, 0, none⟩))
 (hR : Below w.heap.size w (finW W w.heap.size t' a b).drew → Q (.returned (.tuple #[tkV t', v, .agg #[.int .i64 a, .int .i64 b]])) (finW W w.heap.size t' a b).drew) : bodyPost Tryz.prog fn Q Exit.ret ⟨tmps, []⟩ (finW W w.heap.size t' a b).drew := by
 obtain ⟨k1, k2, k3⟩ := finW_spec hQ3 t' a b
 exact bodyPost_ret (resQ h h0 h1 h2 (k1.keep ((Below.refl _ _).drew)) (k2.keep ((Below.refl _ _).drew))) rfl (hR k3.drew)
theorem Q3.row {w W : World} {t u : Tk} {x y : Int} {g : Nat} (h : Q3 w W t u x y) (hg : w.heap.size + 2 < g) (c : Array Value) : Q3 w (W.setRow g c) t u x y :=
 ⟨bel_set c h.bel (by omega), h.b0.other (by omega), h.b1.other (by omega), h.b2.other (by omega)⟩
theorem encL_code {n : Nat} {m : UInt8} {x z : Int} : ∀ {l acc : List UInt8}, encL n m acc l = .bad x z → x ≠ 0
 | [], acc, h => by rw [encL] at h; injection h with h; omega
 | [c], acc, h => by
  rw [encL] at h
  split at h
  · cases h
  · split at h
    · injection h with h; omega
    · exact encL_code h
 | c :: d :: l', acc, h => by
  rw [encL] at h
  split at h
  · cases h
  · split at h
    · split at h
      · exact encL_code h
      · injection h with h; omega
    · exact encL_code h
def SymB (p : Int) (q b r : List UInt8) (SN SR : Sc Tk) : Prop := (SR = .ok ⟨6, p, q, b, []⟩ r ∧ erX SN = 0 ∧ erP SN = 0) ∨ SR = .bad (erX SN) (erP SN)
theorem symT_cases (p : Int) (q b r : List UInt8) : SymB p q b r (symT okP p q b []) (symT okP p q b r) := by
 unfold symT SymB
 repeat' split
 all_goals first | exact .inr rfl | exact .inl ⟨rfl, rfl, rfl⟩
theorem OutQ.sym {w w' : World} {s : ByteArray} {p : Int} {q b r : List UInt8} {SN SR : Sc Tk} (hb : Below w.heap.size w w') (h : SymB p q b r SN SR) (j : Nat) (hj : j ≤ s.size) (hr : (LA s).drop j = r) :
 OutQ w s SR (.returned (.tuple #[tkV ⟨6, p, q, b, []⟩, .int .i64 (j : Int), .agg #[.int .i64 (erX SN), .int .i64 (erP SN)]])) w' := by
 rcases h with ⟨rfl, h1, h2⟩ | rfl
 · rw [h1, h2]
   exact ⟨hb, j, hj, hr, rfl⟩
 · exact ⟨hb, _, _, rfl⟩
theorem EB.q {W W' : World} {g : Nat} {x y : Value} (h : EB W g x y) (hb : Below W.heap.size W W') : EB W' g x y := h.keep hb
set_option maxHeartbeats 8000000 in
set_option maxRecDepth 100000 in
theorem qualifiedR (s : ByteArray) (p : Int) (q : List UInt8) (i : Nat) (hi : i + 2 ≤ s.size) (hs : s.size ≤ 6000) (w : World) : Calls Tryz.prog 53 #[.string s, .agg #[.int .i64 0, .int .i64 p, .string ⟨#[]⟩, .string ⟨#[]⟩, .string ⟨#[]⟩], .string (BA q), .int .i64 (i : Int)] w (OutQ w s (match nameL s.size ((LA s).drop (i + 2)) with | .bad x z => .bad x z | .ok b r => symT okP p q b r : Sc Tk)) := by
 have H0 : Hid (Q3 w (((w.alloc (.cells #[.int .i64 0, .int .i64 p, .string ⟨#[]⟩, .string ⟨#[]⟩, .string ⟨#[]⟩] 65)).alloc (.cells #[.int .i64 0, .int .i64 0, .string ⟨#[]⟩, .string ⟨#[]⟩, .string ⟨#[]⟩] 65)).alloc (.cells #[.int .i64 0, .int .i64 0] 26)) ⟨0, p, [], [], []⟩ ⟨0, 0, [], [], []⟩ 0 0) := Q3.new w ⟨0, p, [], [], []⟩ ⟨0, 0, [], [], []⟩ 0 0
 rcases la_cases s hi with ⟨he, hl⟩ | ⟨hlt, hl⟩
 · rw [hl]
   have d1 : (s.size : Int) ≤ (i : Int) + 2 := by omega
   show Calls _ _ _ _ (OutQ w s (.bad 11 s.size))
   clear hl
   go_enter Tryz.func53, Tryz.ntmps53
   go_upto_region 1 with fail
   generalize (((w.alloc (.cells #[.int .i64 0, .int .i64 p, .string ⟨#[]⟩, .string ⟨#[]⟩, .string ⟨#[]⟩] 65)).alloc (.cells #[.int .i64 0, .int .i64 0, .string ⟨#[]⟩, .string ⟨#[]⟩, .string ⟨#[]⟩] 65)).alloc (.cells #[.int .i64 0, .int .i64 0] 26)) = W at H0 ⊢
   obtain ⟨c0, c1, c2, c3, c4⟩ := H0.out.b0.all
   obtain ⟨f0, f1, f2, f3, f4⟩ := H0.out.b0.frs
   go_wp2_with fail
   have H1 : Hid (Q3 w ((W.setCell ⟨w.heap.size, 0, none⟩ (.int .i64 6)).setCell ⟨w.heap.size, 2, none⟩ (.string (BA q))) ⟨6, p, q, [], []⟩ ⟨0, 0, [], [], []⟩ 0 0) := (H0.out.cell (t' := ⟨6, p, [], [], []⟩) 0 (.int .i64 6) rfl).cell 2 (.string (BA q)) rfl
   generalize ((W.setCell ⟨w.heap.size, 0, none⟩ (.int .i64 6)).setCell ⟨w.heap.size, 2, none⟩ (.string (BA q))) = W1 at H1 ⊢
   clear c0 c1 c2 c3 c4 f0 f1 f2 f3 f4 H0
   obtain ⟨c0, c1, c2, c3, c4⟩ := H1.out.b0.all
   obtain ⟨d0, d1, d2, d3, d4⟩ := H1.out.b1.all
   obtain ⟨e0, e1, e2, e3, e4⟩ := H1.out.b1.frs
   have g0 := H1.out.b2.c0
   have g1 := H1.out.b2.c1
   have i0 := H1.out.b2.fr (k := 0)
   have i1 := H1.out.b2.fr (k := 1)
   have HD := Lib.hid H1.out.drew
   obtain ⟨c0d, c1d, c2d, c3d, c4d⟩ := HD.out.b0.all
   obtain ⟨d0d, d1d, d2d, d3d, d4d⟩ := HD.out.b1.all
   obtain ⟨e0d, e1d, e2d, e3d, e4d⟩ := HD.out.b1.frs
   have g0d := HD.out.b2.c0
   have g1d := HD.out.b2.c1
   have i0d := HD.out.b2.fr (k := 0)
   have i1d := HD.out.b2.fr (k := 1)
   go_region_with (go_at_call 31; refine (badR _ _ _).mono ?_; rintro e w2 ⟨rfl, hb⟩; have H2 := Lib.hid (HD.out.keep hb); obtain ⟨c0x, c1x, c2x, c3x, c4x⟩ := H2.out.b0.all; obtain ⟨d0x, d1x, d2x, d3x, d4x⟩ := H2.out.b1.all; obtain ⟨e0x, e1x, e2x, e3x, e4x⟩ := H2.out.b1.frs; have g0x := H2.out.b2.c0; have g1x := H2.out.b2.c1; have i0x := H2.out.b2.fr (k := 0); have i1x := H2.out.b2.fr (k := 1); clear hb)
   all_goals
    go_wp2_with fail
    exact retQ H2.out ⟨6, p, q, [], []⟩ 11 s.size rfl rfl rfl rfl (fun hb => ⟨hb, _, _, rfl⟩)
 · have d1 : ¬ (s.size : Int) ≤ (i : Int) + 2 := by omega
   have d2 : (0 : Int) ≤ (i : Int) + 2 ∧ (i : Int) + 2 < (s.size : Int) := by omega
   have hr : nameL s.size ((LA s).drop (i + 2)) = if s[i + 2] = 124 then encL s.size 124 [] ((LA s).drop (i + 3)) else if conB s[i + 2] then .ok (wordL ((LA s).drop (i + 2))) (restL ((LA s).drop (i + 2))) else .bad 12 ((i + 2 : Nat) : Int) := by
    rw [← posL_drop s hi, hl, nameL]
   rw [hr]
   clear hr hl
   by_cases h1 : s[i + 2] = 124
   · rw [if_pos h1]
     have hx : ((s[i + 2].toNat : Int) == 124) = true := int_eq 124 h1
     clear h1
     have KE : Hid (∀ w, Calls Tryz.prog 49 #[.string s, .int .i64 ((i : Int) + 2 + 1), .int .u8 124] w (OutE w s (encL s.size 124 [] ((LA s).drop (i + 3))))) := fun w => by
      have := enclosedR s (i + 3) 124 hlt hs w
      rwa [show ((i + 3 : Nat) : Int) = (i : Int) + 2 + 1 by omega] at this
     cases hRN : encL s.size 124 [] ((LA s).drop (i + 3)) with
     | bad x z =>
      rw [hRN] at KE
      have hne : x ≠ 0 := encL_code hRN
      have hz : (x == 0) = false := by rw [beq_eq_false_iff_ne]; exact hne
      clear hRN hne
      show Calls _ _ _ _ (OutQ w s (.bad x z))
      go_enter Tryz.func53, Tryz.ntmps53
      go_upto_region 1 with fail
      generalize (((w.alloc (.cells #[.int .i64 0, .int .i64 p, .string ⟨#[]⟩, .string ⟨#[]⟩, .string ⟨#[]⟩] 65)).alloc (.cells #[.int .i64 0, .int .i64 0, .string ⟨#[]⟩, .string ⟨#[]⟩, .string ⟨#[]⟩] 65)).alloc (.cells #[.int .i64 0, .int .i64 0] 26)) = W at H0 ⊢
      obtain ⟨c0, c1, c2, c3, c4⟩ := H0.out.b0.all
      obtain ⟨f0, f1, f2, f3, f4⟩ := H0.out.b0.frs
      go_wp2_with fail
      have H1 : Hid (Q3 w ((W.setCell ⟨w.heap.size, 0, none⟩ (.int .i64 6)).setCell ⟨w.heap.size, 2, none⟩ (.string (BA q))) ⟨6, p, q, [], []⟩ ⟨0, 0, [], [], []⟩ 0 0) := (H0.out.cell (t' := ⟨6, p, [], [], []⟩) 0 (.int .i64 6) rfl).cell 2 (.string (BA q)) rfl
      generalize ((W.setCell ⟨w.heap.size, 0, none⟩ (.int .i64 6)).setCell ⟨w.heap.size, 2, none⟩ (.string (BA q))) = W1 at H1 ⊢
      clear c0 c1 c2 c3 c4 f0 f1 f2 f3 f4 H0
      go_wp2_with fail
      refine (KE.out _).mono ?_
      rintro e w3 ⟨hb, j, hj, rfl⟩
      have H3 := Lib.hid (H1.out.keep hb)
      clear hb H1
      go_upto_region 8 with fail
      have H4 : Hid (Q3 w (w3.alloc (.cells #[.int .i64 x, .int .i64 z] 26)) ⟨6, p, q, [], []⟩ ⟨0, 0, [], [], []⟩ 0 0) := H3.out.keep (Below.alloc (Below.refl _ _) (Nat.le_refl _) _)
      have E4 : Hid (EB (w3.alloc (.cells #[.int .i64 x, .int .i64 z] 26)) w3.heap.size (.int .i64 x) (.int .i64 z)) := EB.new _ _ _
      have hgt : w.heap.size + 2 < w3.heap.size := H3.out.b2.lt
      obtain ⟨g4, hg4⟩ : ∃ g4, g4 = w3.heap.size := ⟨_, rfl⟩
      rw [← hg4] at E4 hgt ⊢
      generalize (w3.alloc (.cells #[.int .i64 x, .int .i64 z] 26)) = W4 at H4 E4 ⊢
      clear hg4 H3
      obtain ⟨c0, c1, c2, c3, c4⟩ := H4.out.b0.all
      obtain ⟨f0, f1, f2, f3, f4⟩ := H4.out.b0.frs
      go_upto_region 9 with fail
      have H5 : Hid (Q3 w (W4.setCell ⟨w.heap.size, 3, none⟩ (.string (BA []))) ⟨6, p, q, [], []⟩ ⟨0, 0, [], [], []⟩ 0 0) := H4.out.cell 3 (.string (BA [])) rfl
      have E5 : Hid (EB (W4.setCell ⟨w.heap.size, 3, none⟩ (.string (BA []))) g4 (.int .i64 x) (.int .i64 z)) := E4.out.ocell (by omega) _
      show Code.wp _ _ _ _ (W4.setCell ⟨w.heap.size, 3, none⟩ (.string (BA [])))
      generalize W4.setCell ⟨w.heap.size, 3, none⟩ (.string (BA [])) = W5 at H5 E5 ⊢
      clear c0 c1 c2 c3 c4 f0 f1 f2 f3 f4 H4 E4
      have g0 := E5.out.c0
      have g1 := E5.out.c1
      go_upto_region 11 with fail
      clear g0 g1
      have H1 := Lib.hid H5.out
      have E1 := Lib.hid E5.out
      clear H5 E5
      obtain ⟨c0, c1, c2, c3, c4⟩ := H1.out.b0.all
      obtain ⟨d0, d1, d2, d3, d4⟩ := H1.out.b1.all
      obtain ⟨e0, e1, e2, e3, e4⟩ := H1.out.b1.frs
      have g0 := H1.out.b2.c0
      have g1 := H1.out.b2.c1
      have i0 := H1.out.b2.fr (k := 0)
      have i1 := H1.out.b2.fr (k := 1)
      have HD := Lib.hid H1.out.drew
      obtain ⟨c0d, c1d, c2d, c3d, c4d⟩ := HD.out.b0.all
      obtain ⟨d0d, d1d, d2d, d3d, d4d⟩ := HD.out.b1.all
      obtain ⟨e0d, e1d, e2d, e3d, e4d⟩ := HD.out.b1.frs
      have g0d := HD.out.b2.c0
      have g1d := HD.out.b2.c1
      have i0d := HD.out.b2.fr (k := 0)
      have i1d := HD.out.b2.fr (k := 1)
      have j0 := E1.out.c0
      have j1 := E1.out.c1
      have k0 := (E1.out.keep ((Below.refl _ _).drew)).c0
      have k1 := (E1.out.keep ((Below.refl _ _).drew)).c1
      have n1 : ¬ g4 = w.heap.size + 1 := by omega
      have n2 : ¬ w.heap.size + 1 = g4 := by omega
      have n3 : ¬ g4 = w.heap.size + 2 := by omega
      have n4 : ¬ w.heap.size + 2 = g4 := by omega
      have n5 : ¬ g4 = w.heap.size + 1 + 1 := by omega
      have n6 : ¬ w.heap.size + 1 + 1 = g4 := by omega
      have HGT := Lib.hid hgt
      clear hgt
      go_region_with (fail)
      all_goals
       go_wp2_with fail
       exact retQd H1.out ⟨6, p, q, [], []⟩ x z rfl rfl rfl rfl (fun hb => ⟨hb, _, _, rfl⟩)
     | ok b r =>
      rw [hRN] at KE
      clear hRN
      show Calls _ _ _ _ (OutQ w s (symT okP p q b r))
      have KN : Hid (∀ w, Calls Tryz.prog 50 #[.agg #[.int .i64 6, .int .i64 p, .string (BA q), .string (BA b), .string (BA [])], .bool true] w (Sy.RetY w (.agg #[.int .i64 (erX (symT okP p q b [])), .int .i64 (erP (symT okP p q b []))]))) := fun w => namedR 6 p q b [] true (fun h => by cases h) w
      have hsy := symT_cases p q b r
      generalize symT okP p q b [] = SN at KN hsy
      generalize symT okP p q b r = SR at hsy ⊢
      have HSY := Lib.hid hsy
      clear hsy
      go_enter Tryz.func53, Tryz.ntmps53
      go_upto_region 1 with fail
      generalize (((w.alloc (.cells #[.int .i64 0, .int .i64 p, .string ⟨#[]⟩, .string ⟨#[]⟩, .string ⟨#[]⟩] 65)).alloc (.cells #[.int .i64 0, .int .i64 0, .string ⟨#[]⟩, .string ⟨#[]⟩, .string ⟨#[]⟩] 65)).alloc (.cells #[.int .i64 0, .int .i64 0] 26)) = W at H0 ⊢
      obtain ⟨c0, c1, c2, c3, c4⟩ := H0.out.b0.all
      obtain ⟨f0, f1, f2, f3, f4⟩ := H0.out.b0.frs
      go_wp2_with fail
      have H1 : Hid (Q3 w ((W.setCell ⟨w.heap.size, 0, none⟩ (.int .i64 6)).setCell ⟨w.heap.size, 2, none⟩ (.string (BA q))) ⟨6, p, q, [], []⟩ ⟨0, 0, [], [], []⟩ 0 0) := (H0.out.cell (t' := ⟨6, p, [], [], []⟩) 0 (.int .i64 6) rfl).cell 2 (.string (BA q)) rfl
      generalize ((W.setCell ⟨w.heap.size, 0, none⟩ (.int .i64 6)).setCell ⟨w.heap.size, 2, none⟩ (.string (BA q))) = W1 at H1 ⊢
      clear c0 c1 c2 c3 c4 f0 f1 f2 f3 f4 H0
      go_wp2_with fail
      refine (KE.out _).mono ?_
      rintro e w3 ⟨hb, j, hj, hr, rfl⟩
      have H3 := Lib.hid (H1.out.keep hb)
      have HR := Lib.hid hr
      clear hb H1 hr
      go_upto_region 8 with fail
      have H4 : Hid (Q3 w (w3.alloc (.cells #[.int .i64 0, .int .i64 0] 26)) ⟨6, p, q, [], []⟩ ⟨0, 0, [], [], []⟩ 0 0) := H3.out.keep (Below.alloc (Below.refl _ _) (Nat.le_refl _) _)
      have E4 : Hid (EB (w3.alloc (.cells #[.int .i64 0, .int .i64 0] 26)) w3.heap.size (.int .i64 0) (.int .i64 0)) := EB.new _ _ _
      have hgt : w.heap.size + 2 < w3.heap.size := H3.out.b2.lt
      obtain ⟨g4, hg4⟩ : ∃ g4, g4 = w3.heap.size := ⟨_, rfl⟩
      rw [← hg4] at E4 hgt ⊢
      generalize (w3.alloc (.cells #[.int .i64 0, .int .i64 0] 26)) = W4 at H4 E4 ⊢
      clear hg4 H3
      obtain ⟨c0, c1, c2, c3, c4⟩ := H4.out.b0.all
      obtain ⟨f0, f1, f2, f3, f4⟩ := H4.out.b0.frs
      go_upto_region 9 with fail
      have H5 : Hid (Q3 w (W4.setCell ⟨w.heap.size, 3, none⟩ (.string (BA b))) ⟨6, p, q, b, []⟩ ⟨0, 0, [], [], []⟩ 0 0) := H4.out.cell 3 (.string (BA b)) rfl
      have E5 : Hid (EB (W4.setCell ⟨w.heap.size, 3, none⟩ (.string (BA b))) g4 (.int .i64 0) (.int .i64 0)) := E4.out.ocell (by omega) _
      skip
      generalize W4.setCell ⟨w.heap.size, 3, none⟩ (.string (BA b)) = W5 at H5 E5 ⊢
      clear c0 c1 c2 c3 c4 f0 f1 f2 f3 f4 H4 E4
      have g0 := E5.out.c0
      have g1 := E5.out.c1
      obtain ⟨c0, c1, c2, c3, c4⟩ := H5.out.b0.all
      go_wp2_with fail
      refine (KN.out _).mono ?_
      rintro e w6 ⟨rfl, hb⟩
      replace H5 := Lib.hid (H5.out.keep hb)
      replace E5 := Lib.hid (E5.out.keep hb)
      clear hb g0 g1 c0 c1 c2 c3 c4
      go_upto_region 11 with (refine EB.store (.tmp 14) (.tmp 50) rfl rfl g4 (erX SN) (erP SN) _ _ rfl rfl E5.out ?_)
      have H1 : Hid (Q3 w (w6.setRow g4 #[.int .i64 (erX SN), .int .i64 (erP SN)]) ⟨6, p, q, b, []⟩ ⟨0, 0, [], [], []⟩ 0 0) := H5.out.row (by omega) _
      have E1 : Hid (EB (w6.setRow g4 #[.int .i64 (erX SN), .int .i64 (erP SN)]) g4 (.int .i64 (erX SN)) (.int .i64 (erP SN))) := E5.out.set _ _
      generalize w6.setRow g4 #[.int .i64 (erX SN), .int .i64 (erP SN)] = W1 at H1 E1 ⊢
      clear H5 E5
      obtain ⟨c0, c1, c2, c3, c4⟩ := H1.out.b0.all
      obtain ⟨d0, d1, d2, d3, d4⟩ := H1.out.b1.all
      obtain ⟨e0, e1, e2, e3, e4⟩ := H1.out.b1.frs
      have g0 := H1.out.b2.c0
      have g1 := H1.out.b2.c1
      have i0 := H1.out.b2.fr (k := 0)
      have i1 := H1.out.b2.fr (k := 1)
      have HD := Lib.hid H1.out.drew
      obtain ⟨c0d, c1d, c2d, c3d, c4d⟩ := HD.out.b0.all
      obtain ⟨d0d, d1d, d2d, d3d, d4d⟩ := HD.out.b1.all
      obtain ⟨e0d, e1d, e2d, e3d, e4d⟩ := HD.out.b1.frs
      have g0d := HD.out.b2.c0
      have g1d := HD.out.b2.c1
      have i0d := HD.out.b2.fr (k := 0)
      have i1d := HD.out.b2.fr (k := 1)
      have j0 := E1.out.c0
      have j1 := E1.out.c1
      have k0 := (E1.out.keep ((Below.refl _ _).drew)).c0
      have k1 := (E1.out.keep ((Below.refl _ _).drew)).c1
      have n1 : ¬ g4 = w.heap.size + 1 := by omega
      have n2 : ¬ w.heap.size + 1 = g4 := by omega
      have n3 : ¬ g4 = w.heap.size + 2 := by omega
      have n4 : ¬ w.heap.size + 2 = g4 := by omega
      have n5 : ¬ g4 = w.heap.size + 1 + 1 := by omega
      have n6 : ¬ w.heap.size + 1 + 1 = g4 := by omega
      have HGT := Lib.hid hgt
      clear hgt
      go_region_with (fail)
      all_goals
       go_wp2_with fail
       exact retQd H1.out ⟨6, p, q, b, []⟩ (erX SN) (erP SN) rfl rfl rfl rfl (fun hb => OutQ.sym hb HSY.out j hj HR.out)
   · rw [if_neg h1]
     have hx : ((s[i + 2].toNat : Int) == 124) = false := int_ne 124 h1
     clear h1
     cases hc : conB s[i + 2] with
     | false =>
      rw [if_neg (by simp)]
      have HC := Lib.hid hc
      clear hc
      show Calls _ _ _ _ (OutQ w s (.bad 12 ((i + 2 : Nat) : Int)))
      go_enter Tryz.func53, Tryz.ntmps53
      go_upto_region 1 with fail
      generalize (((w.alloc (.cells #[.int .i64 0, .int .i64 p, .string ⟨#[]⟩, .string ⟨#[]⟩, .string ⟨#[]⟩] 65)).alloc (.cells #[.int .i64 0, .int .i64 0, .string ⟨#[]⟩, .string ⟨#[]⟩, .string ⟨#[]⟩] 65)).alloc (.cells #[.int .i64 0, .int .i64 0] 26)) = W at H0 ⊢
      obtain ⟨c0, c1, c2, c3, c4⟩ := H0.out.b0.all
      obtain ⟨f0, f1, f2, f3, f4⟩ := H0.out.b0.frs
      go_wp2_with fail
      have H1 : Hid (Q3 w ((W.setCell ⟨w.heap.size, 0, none⟩ (.int .i64 6)).setCell ⟨w.heap.size, 2, none⟩ (.string (BA q))) ⟨6, p, q, [], []⟩ ⟨0, 0, [], [], []⟩ 0 0) := (H0.out.cell (t' := ⟨6, p, [], [], []⟩) 0 (.int .i64 6) rfl).cell 2 (.string (BA q)) rfl
      generalize ((W.setCell ⟨w.heap.size, 0, none⟩ (.int .i64 6)).setCell ⟨w.heap.size, 2, none⟩ (.string (BA q))) = W1 at H1 ⊢
      clear c0 c1 c2 c3 c4 f0 f1 f2 f3 f4 H0
      go_wp2_with fail
      refine (conR s[i + 2] _).mono ?_
      rintro e w9 ⟨rfl, rfl⟩
      rw [HC.out]
      go_wp2_with fail
      obtain ⟨c0, c1, c2, c3, c4⟩ := H1.out.b0.all
      obtain ⟨d0, d1, d2, d3, d4⟩ := H1.out.b1.all
      obtain ⟨e0, e1, e2, e3, e4⟩ := H1.out.b1.frs
      have g0 := H1.out.b2.c0
      have g1 := H1.out.b2.c1
      have i0 := H1.out.b2.fr (k := 0)
      have i1 := H1.out.b2.fr (k := 1)
      have HD := Lib.hid H1.out.drew
      obtain ⟨c0d, c1d, c2d, c3d, c4d⟩ := HD.out.b0.all
      obtain ⟨d0d, d1d, d2d, d3d, d4d⟩ := HD.out.b1.all
      obtain ⟨e0d, e1d, e2d, e3d, e4d⟩ := HD.out.b1.frs
      have g0d := HD.out.b2.c0
      have g1d := HD.out.b2.c1
      have i0d := HD.out.b2.fr (k := 0)
      have i1d := HD.out.b2.fr (k := 1)
      go_region_with (go_at_call 31; refine (badR _ _ _).mono ?_; rintro e w2 ⟨rfl, hb⟩; have H2 := Lib.hid (HD.out.keep hb); obtain ⟨c0x, c1x, c2x, c3x, c4x⟩ := H2.out.b0.all; obtain ⟨d0x, d1x, d2x, d3x, d4x⟩ := H2.out.b1.all; obtain ⟨e0x, e1x, e2x, e3x, e4x⟩ := H2.out.b1.frs; have g0x := H2.out.b2.c0; have g1x := H2.out.b2.c1; have i0x := H2.out.b2.fr (k := 0); have i1x := H2.out.b2.fr (k := 1); clear hb)
      all_goals
       go_wp2_with fail
       exact retQ H2.out ⟨6, p, q, [], []⟩ 12 ((i : Int) + 2) rfl rfl rfl rfl (fun hb => ⟨hb, _, _, rfl⟩)
     | true =>
      rw [if_pos rfl]
      have HC := Lib.hid hc
      clear hc
      obtain ⟨b, hb0⟩ : ∃ b, wordL ((LA s).drop (i + 2)) = b := ⟨_, rfl⟩
      obtain ⟨r, hr0⟩ : ∃ r, restL ((LA s).drop (i + 2)) = r := ⟨_, rfl⟩
      have KW : Hid (∀ w, Calls Tryz.prog 52 #[.string s, .int .i64 ((i : Int) + 2)] w fun e w' => (∃ j : Nat, i + 2 ≤ j ∧ j ≤ s.size ∧ e = .returned (.int .i64 (j : Int)) ∧ (LA s).drop j = r ∧ s.extract (i + 2) j = BA b) ∧ w = w') := fun w => by
       have := wordR s (i + 2) hi hs w
       rw [hb0, hr0] at this
       rwa [show ((i + 2 : Nat) : Int) = (i : Int) + 2 by omega] at this
      have hbn : b ≠ [] := by
       rw [← hb0, la_drop hlt, word_cons HC.out]
       simp
      rw [hb0, hr0]
      clear hb0 hr0
      show Calls _ _ _ _ (OutQ w s (symT okP p q b r))
      have KN : Hid (∀ w, Calls Tryz.prog 50 #[.agg #[.int .i64 6, .int .i64 p, .string (BA q), .string (BA b), .string (BA [])], .bool false] w (Sy.RetY w (.agg #[.int .i64 (erX (symT okP p q b [])), .int .i64 (erP (symT okP p q b []))]))) := fun w => namedR 6 p q b [] false (fun _ => hbn) w
      have hsy := symT_cases p q b r
      generalize symT okP p q b [] = SN at KN hsy
      generalize symT okP p q b r = SR at hsy ⊢
      have HSY := Lib.hid hsy
      clear hsy hbn
      go_enter Tryz.func53, Tryz.ntmps53
      go_upto_region 1 with fail
      generalize (((w.alloc (.cells #[.int .i64 0, .int .i64 p, .string ⟨#[]⟩, .string ⟨#[]⟩, .string ⟨#[]⟩] 65)).alloc (.cells #[.int .i64 0, .int .i64 0, .string ⟨#[]⟩, .string ⟨#[]⟩, .string ⟨#[]⟩] 65)).alloc (.cells #[.int .i64 0, .int .i64 0] 26)) = W at H0 ⊢
      obtain ⟨c0, c1, c2, c3, c4⟩ := H0.out.b0.all
      obtain ⟨f0, f1, f2, f3, f4⟩ := H0.out.b0.frs
      go_wp2_with fail
      have H1 : Hid (Q3 w ((W.setCell ⟨w.heap.size, 0, none⟩ (.int .i64 6)).setCell ⟨w.heap.size, 2, none⟩ (.string (BA q))) ⟨6, p, q, [], []⟩ ⟨0, 0, [], [], []⟩ 0 0) := (H0.out.cell (t' := ⟨6, p, [], [], []⟩) 0 (.int .i64 6) rfl).cell 2 (.string (BA q)) rfl
      generalize ((W.setCell ⟨w.heap.size, 0, none⟩ (.int .i64 6)).setCell ⟨w.heap.size, 2, none⟩ (.string (BA q))) = W1 at H1 ⊢
      clear c0 c1 c2 c3 c4 f0 f1 f2 f3 f4 H0
      go_wp2_with fail
      refine (conR s[i + 2] _).mono ?_
      rintro e w9 ⟨rfl, rfl⟩
      rw [HC.out]
      go_wp2_with fail
      refine (KW.out _).mono ?_
      rintro e w8 ⟨⟨j, hij, hj, rfl, hr, hw⟩, rfl⟩
      have HR := Lib.hid hr
      have HWD := Lib.hid hw
      clear hr hw
      obtain ⟨c0, c1, c2, c3, c4⟩ := H1.out.b0.all
      obtain ⟨f0, f1, f2, f3, f4⟩ := H1.out.b0.frs
      have b1 : (0 : Int) ≤ (i : Int) + 2 ∧ (i : Int) + 2 ≤ (j : Int) ∧ (j : Int) ≤ (s.size : Int) := by omega
      have b2 : (0 : Int) ≤ (i : Int) + 2 := by omega
      have b3 : (i : Int) + 2 ≤ (j : Int) := by omega
      have b4 : (j : Int) ≤ (s.size : Int) := by omega
      have hn2 : ((i : Int) + 2).toNat = i + 2 := by omega
      go_upto_region 16 with fail
      clear hn2
      rw [HWD.out]
      have H5 : Hid (Q3 w (W1.setCell ⟨w.heap.size, 3, none⟩ (.string (BA b))) ⟨6, p, q, b, []⟩ ⟨0, 0, [], [], []⟩ 0 0) := H1.out.cell 3 (.string (BA b)) rfl
      generalize W1.setCell ⟨w.heap.size, 3, none⟩ (.string (BA b)) = W5 at H5 ⊢
      clear c0 c1 c2 c3 c4 f0 f1 f2 f3 f4 H1
      obtain ⟨W1, rfl⟩ : ∃ W1, W1 = W5 := ⟨_, rfl⟩
      have H1 := Lib.hid H5.out
      clear H5
      obtain ⟨c0, c1, c2, c3, c4⟩ := H1.out.b0.all
      obtain ⟨d0, d1, d2, d3, d4⟩ := H1.out.b1.all
      obtain ⟨e0, e1, e2, e3, e4⟩ := H1.out.b1.frs
      have g0 := H1.out.b2.c0
      have g1 := H1.out.b2.c1
      have i0 := H1.out.b2.fr (k := 0)
      have i1 := H1.out.b2.fr (k := 1)
      have HD := Lib.hid H1.out.drew
      obtain ⟨c0d, c1d, c2d, c3d, c4d⟩ := HD.out.b0.all
      obtain ⟨d0d, d1d, d2d, d3d, d4d⟩ := HD.out.b1.all
      obtain ⟨e0d, e1d, e2d, e3d, e4d⟩ := HD.out.b1.frs
      have g0d := HD.out.b2.c0
      have g1d := HD.out.b2.c1
      have i0d := HD.out.b2.fr (k := 0)
      have i1d := HD.out.b2.fr (k := 1)
      go_region_with (go_at_call 50; refine (KN.out _).mono ?_; rintro e w2 ⟨rfl, hb⟩; have H2 := Lib.hid (HD.out.keep hb); obtain ⟨c0x, c1x, c2x, c3x, c4x⟩ := H2.out.b0.all; obtain ⟨d0x, d1x, d2x, d3x, d4x⟩ := H2.out.b1.all; obtain ⟨e0x, e1x, e2x, e3x, e4x⟩ := H2.out.b1.frs; have g0x := H2.out.b2.c0; have g1x := H2.out.b2.c1; have i0x := H2.out.b2.fr (k := 0); have i1x := H2.out.b2.fr (k := 1); clear hb)
      all_goals
       go_wp2_with fail
       exact retQ H2.out ⟨6, p, q, b, []⟩ (erX SN) (erP SN) rfl rfl rfl rfl (fun hb => OutQ.sym hb HSY.out j hj HR.out)
structure Q4 (w W : World) (t u : Tk) (x y a b : Int) : Prop where
 bel : Below w.heap.size w W
 b0 : TR W w.heap.size (tkC u)
 b1 : EB W (w.heap.size + 1) (.int .i64 x) (.int .i64 y)
 b2 : TR W (w.heap.size + 2) (tkC t)
 b3 : EB W (w.heap.size + 3) (.int .i64 a) (.int .i64 b)
theorem Q4.keep {w W W' : World} {t u : Tk} {x y a b : Int} (h : Q4 w W t u x y a b) (hb : Below W.heap.size W W') : Q4 w W' t u x y a b := ⟨chain5 h.bel hb, h.b0.keep hb, h.b1.keep hb, h.b2.keep hb, h.b3.keep hb⟩
theorem Q4.drew {w W : World} {t u : Tk} {x y a b : Int} (h : Q4 w W t u x y a b) : Q4 w W.drew t u x y a b := h.keep ((Below.refl _ _).drew)
theorem Q4.new (w : World) (t u : Tk) (x y a b : Int) : Q4 w ((((w.alloc (.cells (tkC u) 65)).alloc (.cells #[.int .i64 x, .int .i64 y] 26)).alloc (.cells (tkC t) 65)).alloc (.cells #[.int .i64 a, .int .i64 b] 26)) t u x y a b := by
 obtain ⟨W1, h1⟩ : ∃ W1, W1 = w.alloc (.cells (tkC u) 65) := ⟨_, rfl⟩
 have k1 : Below w.heap.size w W1 := h1 ▸ Below.alloc (Below.refl _ _) (Nat.le_refl _) _
 have t1 : TR W1 w.heap.size (tkC u) := h1 ▸ TR.new _ _
 have s1 : W1.heap.size = w.heap.size + 1 := by rw [h1]; simp
 rw [← h1]
 obtain ⟨W2, h2⟩ : ∃ W2, W2 = W1.alloc (.cells #[.int .i64 x, .int .i64 y] 26) := ⟨_, rfl⟩
 have k2 : Below W1.heap.size W1 W2 := h2 ▸ Below.alloc (Below.refl _ _) (Nat.le_refl _) _
 have t2 : EB W2 (w.heap.size + 1) (.int .i64 x) (.int .i64 y) := by rw [← s1, h2]; exact EB.new _ _ _
 have s2 : W2.heap.size = w.heap.size + 2 := by rw [h2]; simp [s1]
 rw [← h2]
 obtain ⟨W3, h3⟩ : ∃ W3, W3 = W2.alloc (.cells (tkC t) 65) := ⟨_, rfl⟩
 have k3 : Below W2.heap.size W2 W3 := h3 ▸ Below.alloc (Below.refl _ _) (Nat.le_refl _) _
 have t3 : TR W3 (w.heap.size + 2) (tkC t) := by rw [← s2, h3]; exact TR.new _ _
 have s3 : W3.heap.size = w.heap.size + 3 := by rw [h3]; simp [s2]
 rw [← h3]
 have k4 := Below.alloc (Below.refl W3.heap.size W3) (Nat.le_refl _) (.cells #[.int .i64 a, .int .i64 b] 26)
 have t4 := EB.new W3 (.int .i64 a) (.int .i64 b)
 rw [s3] at t4
 exact ⟨chain5 (chain5 (chain5 k1 k2) k3) k4, ((t1.keep k2).keep k3).keep k4, (t2.keep k3).keep k4, t3.keep k4, t4⟩
theorem Q4.cell {w W : World} {t t' u : Tk} {x y a b : Int} (h : Q4 w W t u x y a b) (k : Nat) (v : Value) (ht : (tkC t).setIfInBounds k v = tkC t') : Q4 w (W.setCell ⟨w.heap.size + 2, k, none⟩ v) t' u x y a b :=
 ⟨h.bel.trans (below_set5 W _ _ _ (by omega)), h.b0.ocell (by omega) v, h.b1.ocell (by omega) v, ht ▸ h.b2.cell k v, h.b3.ocell (by omega) v⟩
theorem Q4.err {w W : World} {t u : Tk} {x y a b : Int} (h : Q4 w W t u x y a b) (a' b' : Int) : Q4 w (W.setRow (w.heap.size + 3) #[.int .i64 a', .int .i64 b']) t u x y a' b' :=
 ⟨bel_set _ h.bel (by omega), h.b0.other (by omega), h.b1.other (by omega), h.b2.other (by omega), h.b3.set _ _⟩
def finO (W : World) (g : Nat) (t : Tk) (a b : Int) : World :=
 ((((((W.setCell ⟨g, 0, none⟩ (.int .i64 t.k)).setCell ⟨g, 1, none⟩ (.int .i64 t.p)).setCell ⟨g, 2, none⟩ (.string (BA t.pkg))).setCell ⟨g, 3, none⟩ (.string (BA t.txt))).setCell ⟨g, 4, none⟩ (.string (BA t.den))).setCell ⟨g + 1, 0, none⟩ (.int .i64 a)).setCell ⟨g + 1, 1, none⟩ (.int .i64 b)
theorem finO_spec {w W : World} {t u : Tk} {x y c d : Int} (h : Q4 w W t u x y c d) (t' : Tk) (a b : Int) : TR (finO W w.heap.size t' a b) w.heap.size (tkC t') ∧ EB (finO W w.heap.size t' a b) (w.heap.size + 1) (.int .i64 a) (.int .i64 b) ∧ Below w.heap.size w (finO W w.heap.size t' a b) := by
 unfold finO
 refine ⟨?_, ?_, ?_⟩
 · exact TR.ocell (TR.ocell (TR.cell (TR.cell (TR.cell (TR.cell (TR.cell h.b0 0 _) 1 _) 2 _) 3 _) 4 _) (by omega) _) (by omega) _
 · exact EB.cell2 (EB.ocell (EB.ocell (EB.ocell (EB.ocell (EB.ocell h.b1 (by omega) _) (by omega) _) (by omega) _) (by omega) _) (by omega) _) _ _
 · exact (((((((h.bel.setCell (Nat.le_refl _) _).setCell (Nat.le_refl _) _).setCell (Nat.le_refl _) _).setCell (Nat.le_refl _) _).setCell (Nat.le_refl _) _).setCell (Nat.le_succ _) _).setCell (Nat.le_succ _) _)
theorem retO5 {fn : Func} {r0 r1 r2 : Tmp} {tmps : Array Value} {w W : World} {t u : Tk} {x y c d : Int} {v : Value} {Q : Ending → World → Prop} (hQ3 : Q4 w W t u x y c d) (t' : Tk) (a b : Int) (h : fn.results = #[.cell r0 65, .tmp r1, .cell r2 26])
 (h0 : tmps.getD r0 undef = .pointer (some ⟨w.heap.size, 0, none⟩)) (h1 : tmps.getD r1 undef = v) (h2 : tmps.getD r2 undef = .pointer (some ⟨w.heap.size + 1, 0, none⟩))
 (hR : Below w.heap.size w (finO W w.heap.size t' a b) → Q (.returned (.tuple #[tkV t', v, .agg #[.int .i64 a, .int .i64 b]])) (finO W w.heap.size t' a b)) : bodyPost Tryz.prog fn Q Exit.ret ⟨tmps, []⟩ (finO W w.heap.size t' a b) := by
 obtain ⟨k1, k2, k3⟩ := finO_spec hQ3 t' a b
 exact bodyPost_ret (resQ h h0 h1 h2 k1 k2) rfl (hR k3)
theorem retO5d {fn : Func} {r0 r1 r2 : Tmp} {tmps : Array Value} {w W : World} {t u : Tk} {x y c d : Int} {v : Value} {Q : Ending → World → Prop} (hQ3 : Q4 w W t u x y c d) (t' : Tk) (a b : Int) (h : fn.results = #[.cell r0 65, .tmp r1, .cell r2 26])
 (h0 : tmps.getD r0 undef = .pointer (some ⟨w.heap.size, 0, none⟩)) (h1 : tmps.getD r1 undef = v) (h2 : tmps.getD r2 undef = .pointer (some ⟨w.heap.size + 1, 0, none⟩))
 (hR : Below w.heap.size w (finO W w.heap.size t' a b).drew → Q (.returned (.tuple #[tkV t', v, .agg #[.int .i64 a, .int .i64 b]])) (finO W w.heap.size t' a b).drew) : bodyPost Tryz.prog fn Q Exit.ret ⟨tmps, []⟩ (finO W w.heap.size t' a b).drew := by
 obtain ⟨k1, k2, k3⟩ := finO_spec hQ3 t' a b
 exact bodyPost_ret (resQ h h0 h1 h2 (k1.keep ((Below.refl _ _).drew)) (k2.keep ((Below.refl _ _).drew))) rfl (hR k3.drew)
theorem EB.frs {W : World} {g : Nat} {x y : Value} (h : EB W g x y) : W.frozen? ⟨g, 0, none⟩ = false ∧ W.frozen? ⟨g, 1, none⟩ = false := ⟨h.fr, h.fr⟩
theorem OutQ.ok_ {w w' : World} {s : ByteArray} {t : Tk} {r : List UInt8} {j : Nat} (hb : Below w.heap.size w w') (hj : j ≤ s.size) (hr : (LA s).drop j = r) : OutQ w s (.ok t r) (.returned (.tuple #[tkV t, .int .i64 (j : Int), .agg #[.int .i64 0, .int .i64 0]])) w' := ⟨hb, j, hj, hr, rfl⟩
theorem OutQ.ok1 {w w' : World} {s : ByteArray} {t : Tk} {i : Nat} (hb : Below w.heap.size w w') (hi : i < s.size) : OutQ w s (.ok t ((LA s).drop (i + 1))) (.returned (.tuple #[tkV t, .int .i64 ((i : Int) + 1), .agg #[.int .i64 0, .int .i64 0]])) w' := ⟨hb, i + 1, hi, rfl, rfl⟩
theorem OutQ.bad_ {w w' : World} {s : ByteArray} {t : Tk} {x p j : Int} (hb : Below w.heap.size w w') : OutQ w s (.bad x p) (.returned (.tuple #[tkV t, .int .i64 j, .agg #[.int .i64 x, .int .i64 p]])) w' := ⟨hb, _, _, rfl⟩
set_option maxHeartbeats 8000000
set_option maxRecDepth 100000

theorem one40R (s : ByteArray) (i : Nat) (hi : i < s.size) (hs : s.size ≤ 6000) (h40 : s[i] = 40) (w : World) : Calls Tryz.prog 33 #[.string s, .int .i64 (i : Int)] w (OutQ w s (.ok ⟨1, i, [], [], []⟩ ((LA s).drop (i + 1)))) := by
 have H0 : Hid (Q4 w ((((w.alloc (.cells #[.int .i64 0, .int .i64 0, .string ⟨#[]⟩, .string ⟨#[]⟩, .string ⟨#[]⟩] 65)).alloc (.cells #[.int .i64 0, .int .i64 0] 26)).alloc (.cells #[.int .i64 0, .int .i64 (i : Int), .string ⟨#[]⟩, .string ⟨#[]⟩, .string ⟨#[]⟩] 65)).alloc (.cells #[.int .i64 0, .int .i64 0] 26)) ⟨0, (i : Int), [], [], []⟩ ⟨0, 0, [], [], []⟩ 0 0 0 0) := Q4.new w ⟨0, (i : Int), [], [], []⟩ ⟨0, 0, [], [], []⟩ 0 0 0 0
 have x1 : (0 : Int) ≤ (i : Int) ∧ (i : Int) < (s.size : Int) := by omega
 have e40 : ((s[i].toNat : Int) == 40) = true := int_eq 40 h40
 clear h40 
 have hw1 : IntKind.i64.wrap ((i : Int) + 1) = (i : Int) + 1 := IntWalk.i64_in _ (by omega)
 go_enter Tryz.func33, Tryz.ntmps33
 go_upto_region 3 with fail
 generalize ((((w.alloc (.cells #[.int .i64 0, .int .i64 0, .string ⟨#[]⟩, .string ⟨#[]⟩, .string ⟨#[]⟩] 65)).alloc (.cells #[.int .i64 0, .int .i64 0] 26)).alloc (.cells #[.int .i64 0, .int .i64 (i : Int), .string ⟨#[]⟩, .string ⟨#[]⟩, .string ⟨#[]⟩] 65)).alloc (.cells #[.int .i64 0, .int .i64 0] 26)) = W1 at H0 ⊢
 have H1 := Lib.hid H0.out
 clear H0
 obtain ⟨c0, c1, c2, c3, c4⟩ := H1.out.b2.all
 obtain ⟨f0, f1, f2, f3, f4⟩ := H1.out.b2.frs
 go_upto_region 6 with fail
 have H2 : Hid (Q4 w (W1.setCell ⟨w.heap.size + 2, 0, none⟩ (.int .i64 1)) ⟨1, (i : Int), [], [], []⟩ ⟨0, 0, [], [], []⟩ 0 0 0 0) := H1.out.cell 0 (.int .i64 1) rfl
 generalize W1.setCell ⟨w.heap.size + 2, 0, none⟩ (.int .i64 1) = W2 at H2 ⊢
 clear c0 c1 c2 c3 c4 f0 f1 f2 f3 f4 H1
 obtain ⟨W1, rfl⟩ : ∃ W1, W1 = W2 := ⟨_, rfl⟩
 have H1 := Lib.hid H2.out
 clear H2
 obtain ⟨c0, c1, c2, c3, c4⟩ := H1.out.b2.all
 obtain ⟨d0, d1, d2, d3, d4⟩ := H1.out.b0.all
 obtain ⟨e0, e1, e2, e3, e4⟩ := H1.out.b0.frs
 have g0 := H1.out.b1.c0
 have g1 := H1.out.b1.c1
 obtain ⟨i0, i1⟩ := H1.out.b1.frs
 have j0 := H1.out.b3.c0
 have j1 := H1.out.b3.c1
 have HD := Lib.hid H1.out.drew
 obtain ⟨c0d, c1d, c2d, c3d, c4d⟩ := HD.out.b2.all
 obtain ⟨d0d, d1d, d2d, d3d, d4d⟩ := HD.out.b0.all
 obtain ⟨e0d, e1d, e2d, e3d, e4d⟩ := HD.out.b0.frs
 have g0d := HD.out.b1.c0
 have g1d := HD.out.b1.c1
 obtain ⟨i0d, i1d⟩ := HD.out.b1.frs
 have j0d := HD.out.b3.c0
 have j1d := HD.out.b3.c1
 go_region_with (fail)
 all_goals
  go_wp2_with fail
  exact retO5d H1.out ⟨1, (i : Int), [], [], []⟩ 0 0 rfl rfl rfl rfl (fun hb => OutQ.ok1 hb hi)
theorem one41R (s : ByteArray) (i : Nat) (hi : i < s.size) (hs : s.size ≤ 6000) (h41 : s[i] = 41) (w : World) : Calls Tryz.prog 33 #[.string s, .int .i64 (i : Int)] w (OutQ w s (.ok ⟨2, i, [], [], []⟩ ((LA s).drop (i + 1)))) := by
 have H0 : Hid (Q4 w ((((w.alloc (.cells #[.int .i64 0, .int .i64 0, .string ⟨#[]⟩, .string ⟨#[]⟩, .string ⟨#[]⟩] 65)).alloc (.cells #[.int .i64 0, .int .i64 0] 26)).alloc (.cells #[.int .i64 0, .int .i64 (i : Int), .string ⟨#[]⟩, .string ⟨#[]⟩, .string ⟨#[]⟩] 65)).alloc (.cells #[.int .i64 0, .int .i64 0] 26)) ⟨0, (i : Int), [], [], []⟩ ⟨0, 0, [], [], []⟩ 0 0 0 0) := Q4.new w ⟨0, (i : Int), [], [], []⟩ ⟨0, 0, [], [], []⟩ 0 0 0 0
 have x1 : (0 : Int) ≤ (i : Int) ∧ (i : Int) < (s.size : Int) := by omega
 have h40 : ¬ s[i] = 40 := by rw [h41]; decide
 have e41 : ((s[i].toNat : Int) == 41) = true := int_eq 41 h41
 have e40 : ((s[i].toNat : Int) == 40) = false := int_ne 40 h40
 clear h41 h40
 have hw1 : IntKind.i64.wrap ((i : Int) + 1) = (i : Int) + 1 := IntWalk.i64_in _ (by omega)
 go_enter Tryz.func33, Tryz.ntmps33
 go_upto_region 3 with fail
 generalize ((((w.alloc (.cells #[.int .i64 0, .int .i64 0, .string ⟨#[]⟩, .string ⟨#[]⟩, .string ⟨#[]⟩] 65)).alloc (.cells #[.int .i64 0, .int .i64 0] 26)).alloc (.cells #[.int .i64 0, .int .i64 (i : Int), .string ⟨#[]⟩, .string ⟨#[]⟩, .string ⟨#[]⟩] 65)).alloc (.cells #[.int .i64 0, .int .i64 0] 26)) = W1 at H0 ⊢
 have H1 := Lib.hid H0.out
 clear H0
 obtain ⟨c0, c1, c2, c3, c4⟩ := H1.out.b2.all
 obtain ⟨f0, f1, f2, f3, f4⟩ := H1.out.b2.frs
 go_upto_region 9 with fail
 have H2 : Hid (Q4 w (W1.setCell ⟨w.heap.size + 2, 0, none⟩ (.int .i64 2)) ⟨2, (i : Int), [], [], []⟩ ⟨0, 0, [], [], []⟩ 0 0 0 0) := H1.out.cell 0 (.int .i64 2) rfl
 generalize W1.setCell ⟨w.heap.size + 2, 0, none⟩ (.int .i64 2) = W2 at H2 ⊢
 clear c0 c1 c2 c3 c4 f0 f1 f2 f3 f4 H1
 obtain ⟨W1, rfl⟩ : ∃ W1, W1 = W2 := ⟨_, rfl⟩
 have H1 := Lib.hid H2.out
 clear H2
 obtain ⟨c0, c1, c2, c3, c4⟩ := H1.out.b2.all
 obtain ⟨d0, d1, d2, d3, d4⟩ := H1.out.b0.all
 obtain ⟨e0, e1, e2, e3, e4⟩ := H1.out.b0.frs
 have g0 := H1.out.b1.c0
 have g1 := H1.out.b1.c1
 obtain ⟨i0, i1⟩ := H1.out.b1.frs
 have j0 := H1.out.b3.c0
 have j1 := H1.out.b3.c1
 have HD := Lib.hid H1.out.drew
 obtain ⟨c0d, c1d, c2d, c3d, c4d⟩ := HD.out.b2.all
 obtain ⟨d0d, d1d, d2d, d3d, d4d⟩ := HD.out.b0.all
 obtain ⟨e0d, e1d, e2d, e3d, e4d⟩ := HD.out.b0.frs
 have g0d := HD.out.b1.c0
 have g1d := HD.out.b1.c1
 obtain ⟨i0d, i1d⟩ := HD.out.b1.frs
 have j0d := HD.out.b3.c0
 have j1d := HD.out.b3.c1
 go_region_with (fail)
 all_goals
  go_wp2_with fail
  exact retO5d H1.out ⟨2, (i : Int), [], [], []⟩ 0 0 rfl rfl rfl rfl (fun hb => OutQ.ok1 hb hi)
theorem one39R (s : ByteArray) (i : Nat) (hi : i < s.size) (hs : s.size ≤ 6000) (h39 : s[i] = 39) (w : World) : Calls Tryz.prog 33 #[.string s, .int .i64 (i : Int)] w (OutQ w s (.ok ⟨4, i, [], [], []⟩ ((LA s).drop (i + 1)))) := by
 have H0 : Hid (Q4 w ((((w.alloc (.cells #[.int .i64 0, .int .i64 0, .string ⟨#[]⟩, .string ⟨#[]⟩, .string ⟨#[]⟩] 65)).alloc (.cells #[.int .i64 0, .int .i64 0] 26)).alloc (.cells #[.int .i64 0, .int .i64 (i : Int), .string ⟨#[]⟩, .string ⟨#[]⟩, .string ⟨#[]⟩] 65)).alloc (.cells #[.int .i64 0, .int .i64 0] 26)) ⟨0, (i : Int), [], [], []⟩ ⟨0, 0, [], [], []⟩ 0 0 0 0) := Q4.new w ⟨0, (i : Int), [], [], []⟩ ⟨0, 0, [], [], []⟩ 0 0 0 0
 have x1 : (0 : Int) ≤ (i : Int) ∧ (i : Int) < (s.size : Int) := by omega
 have h40 : ¬ s[i] = 40 := by rw [h39]; decide
 have h41 : ¬ s[i] = 41 := by rw [h39]; decide
 have e39 : ((s[i].toNat : Int) == 39) = true := int_eq 39 h39
 have e40 : ((s[i].toNat : Int) == 40) = false := int_ne 40 h40
 have e41 : ((s[i].toNat : Int) == 41) = false := int_ne 41 h41
 clear h39 h40 h41
 have hw1 : IntKind.i64.wrap ((i : Int) + 1) = (i : Int) + 1 := IntWalk.i64_in _ (by omega)
 go_enter Tryz.func33, Tryz.ntmps33
 go_upto_region 3 with fail
 generalize ((((w.alloc (.cells #[.int .i64 0, .int .i64 0, .string ⟨#[]⟩, .string ⟨#[]⟩, .string ⟨#[]⟩] 65)).alloc (.cells #[.int .i64 0, .int .i64 0] 26)).alloc (.cells #[.int .i64 0, .int .i64 (i : Int), .string ⟨#[]⟩, .string ⟨#[]⟩, .string ⟨#[]⟩] 65)).alloc (.cells #[.int .i64 0, .int .i64 0] 26)) = W1 at H0 ⊢
 have H1 := Lib.hid H0.out
 clear H0
 obtain ⟨c0, c1, c2, c3, c4⟩ := H1.out.b2.all
 obtain ⟨f0, f1, f2, f3, f4⟩ := H1.out.b2.frs
 go_upto_region 12 with fail
 have H2 : Hid (Q4 w (W1.setCell ⟨w.heap.size + 2, 0, none⟩ (.int .i64 4)) ⟨4, (i : Int), [], [], []⟩ ⟨0, 0, [], [], []⟩ 0 0 0 0) := H1.out.cell 0 (.int .i64 4) rfl
 generalize W1.setCell ⟨w.heap.size + 2, 0, none⟩ (.int .i64 4) = W2 at H2 ⊢
 clear c0 c1 c2 c3 c4 f0 f1 f2 f3 f4 H1
 obtain ⟨W1, rfl⟩ : ∃ W1, W1 = W2 := ⟨_, rfl⟩
 have H1 := Lib.hid H2.out
 clear H2
 obtain ⟨c0, c1, c2, c3, c4⟩ := H1.out.b2.all
 obtain ⟨d0, d1, d2, d3, d4⟩ := H1.out.b0.all
 obtain ⟨e0, e1, e2, e3, e4⟩ := H1.out.b0.frs
 have g0 := H1.out.b1.c0
 have g1 := H1.out.b1.c1
 obtain ⟨i0, i1⟩ := H1.out.b1.frs
 have j0 := H1.out.b3.c0
 have j1 := H1.out.b3.c1
 have HD := Lib.hid H1.out.drew
 obtain ⟨c0d, c1d, c2d, c3d, c4d⟩ := HD.out.b2.all
 obtain ⟨d0d, d1d, d2d, d3d, d4d⟩ := HD.out.b0.all
 obtain ⟨e0d, e1d, e2d, e3d, e4d⟩ := HD.out.b0.frs
 have g0d := HD.out.b1.c0
 have g1d := HD.out.b1.c1
 obtain ⟨i0d, i1d⟩ := HD.out.b1.frs
 have j0d := HD.out.b3.c0
 have j1d := HD.out.b3.c1
 go_region_with (fail)
 all_goals
  go_wp2_with fail
  exact retO5d H1.out ⟨4, (i : Int), [], [], []⟩ 0 0 rfl rfl rfl rfl (fun hb => OutQ.ok1 hb hi)
set_option maxHeartbeats 8000000 in
set_option maxRecDepth 100000 in
theorem one34R (s : ByteArray) (i : Nat) (hi : i < s.size) (hs : s.size ≤ 6000) (h40 : ¬ s[i] = 40) (h41 : ¬ s[i] = 41) (h39 : ¬ s[i] = 39) (h34 : s[i] = 34) (w : World) : Calls Tryz.prog 33 #[.string s, .int .i64 (i : Int)] w (OutQ w s (match encL s.size 34 [] ((LA s).drop (i + 1)) with | .bad e p => .bad e p | .ok b r => strT i b r)) := by
 have H0 : Hid (Q4 w ((((w.alloc (.cells #[.int .i64 0, .int .i64 0, .string ⟨#[]⟩, .string ⟨#[]⟩, .string ⟨#[]⟩] 65)).alloc (.cells #[.int .i64 0, .int .i64 0] 26)).alloc (.cells #[.int .i64 0, .int .i64 (i : Int), .string ⟨#[]⟩, .string ⟨#[]⟩, .string ⟨#[]⟩] 65)).alloc (.cells #[.int .i64 0, .int .i64 0] 26)) ⟨0, (i : Int), [], [], []⟩ ⟨0, 0, [], [], []⟩ 0 0 0 0) := Q4.new w ⟨0, (i : Int), [], [], []⟩ ⟨0, 0, [], [], []⟩ 0 0 0 0
 have x1 : (0 : Int) ≤ (i : Int) ∧ (i : Int) < (s.size : Int) := by omega
 have e40 : ((s[i].toNat : Int) == 40) = false := int_ne 40 h40
 have e41 : ((s[i].toNat : Int) == 41) = false := int_ne 41 h41
 have e39 : ((s[i].toNat : Int) == 39) = false := int_ne 39 h39
 clear h40 h41 h39
 have e34 : ((s[i].toNat : Int) == 34) = true := int_eq 34 h34
 clear h34
 have KE : Hid (∀ w, Calls Tryz.prog 49 #[.string s, .int .i64 ((i : Int) + 1), .int .u8 34] w (OutE w s (encL s.size 34 [] ((LA s).drop (i + 1))))) := fun w => enclosedR s (i + 1) 34 hi hs w
 cases hRN : encL s.size 34 [] ((LA s).drop (i + 1)) with
 | bad x z =>
  rw [hRN] at KE
  have hz : (x == 0) = false := by rw [beq_eq_false_iff_ne]; exact encL_code hRN
  clear hRN
  show Calls _ _ _ _ (OutQ w s (.bad x z))
  go_enter Tryz.func33, Tryz.ntmps33
  go_upto_region 3 with fail
  generalize ((((w.alloc (.cells #[.int .i64 0, .int .i64 0, .string ⟨#[]⟩, .string ⟨#[]⟩, .string ⟨#[]⟩] 65)).alloc (.cells #[.int .i64 0, .int .i64 0] 26)).alloc (.cells #[.int .i64 0, .int .i64 (i : Int), .string ⟨#[]⟩, .string ⟨#[]⟩, .string ⟨#[]⟩] 65)).alloc (.cells #[.int .i64 0, .int .i64 0] 26)) = W1 at H0 ⊢
  have H1 := Lib.hid H0.out
  clear H0
  obtain ⟨c0, c1, c2, c3, c4⟩ := H1.out.b2.all
  obtain ⟨f0, f1, f2, f3, f4⟩ := H1.out.b2.frs
  go_upto_region 15 with fail
  have H2 : Hid (Q4 w (W1.setCell ⟨w.heap.size + 2, 0, none⟩ (.int .i64 7)) ⟨7, (i : Int), [], [], []⟩ ⟨0, 0, [], [], []⟩ 0 0 0 0) := H1.out.cell 0 (.int .i64 7) rfl
  generalize W1.setCell ⟨w.heap.size + 2, 0, none⟩ (.int .i64 7) = W2 at H2 ⊢
  clear c0 c1 c2 c3 c4 f0 f1 f2 f3 f4 H1
  obtain ⟨W1, rfl⟩ : ∃ W1, W1 = W2 := ⟨_, rfl⟩
  have H1 := Lib.hid H2.out
  clear H2
  go_wp2_with fail
  refine (KE.out _).mono ?_
  rintro e w3 ⟨hb, j, hj, rfl⟩
  have H3 := Lib.hid (H1.out.keep hb)
  clear hb H1
  obtain ⟨c0, c1, c2, c3, c4⟩ := H3.out.b2.all
  obtain ⟨f0, f1, f2, f3, f4⟩ := H3.out.b2.frs
  have H4 : Hid (Q4 w (w3.setCell ⟨w.heap.size + 2, 3, none⟩ (.string (BA []))) ⟨7, (i : Int), [], [], []⟩ ⟨0, 0, [], [], []⟩ 0 0 0 0) := H3.out.cell 3 (.string (BA [])) rfl
  go_upto_region 16 with (refine EB.store (.tmp 8) (.tmp 55) rfl rfl (w.heap.size + 3) x z _ _ rfl rfl H4.out.b3 ?_)
  have H1 : Hid (Q4 w ((w3.setCell ⟨w.heap.size + 2, 3, none⟩ (.string (BA []))).setRow (w.heap.size + 3) #[.int .i64 x, .int .i64 z]) ⟨7, (i : Int), [], [], []⟩ ⟨0, 0, [], [], []⟩ 0 0 x z) := H4.out.err x z
  show Code.wp _ _ _ _ ((w3.setCell ⟨w.heap.size + 2, 3, none⟩ (.string (BA []))).setRow (w.heap.size + 3) #[.int .i64 x, .int .i64 z])
  generalize (w3.setCell ⟨w.heap.size + 2, 3, none⟩ (.string (BA []))).setRow (w.heap.size + 3) #[.int .i64 x, .int .i64 z] = W1 at H1 ⊢
  clear c0 c1 c2 c3 c4 f0 f1 f2 f3 f4 H3 H4
  have m0 := H1.out.b3.c0
  have m1 := H1.out.b3.c1
  obtain ⟨c0, c1, c2, c3, c4⟩ := H1.out.b2.all
  go_upto_region 18 with fail
  clear m0 m1 c0 c1 c2 c3 c4
  obtain ⟨c0, c1, c2, c3, c4⟩ := H1.out.b2.all
  obtain ⟨d0, d1, d2, d3, d4⟩ := H1.out.b0.all
  obtain ⟨e0, e1, e2, e3, e4⟩ := H1.out.b0.frs
  have g0 := H1.out.b1.c0
  have g1 := H1.out.b1.c1
  obtain ⟨i0, i1⟩ := H1.out.b1.frs
  have j0 := H1.out.b3.c0
  have j1 := H1.out.b3.c1
  have HD := Lib.hid H1.out.drew
  obtain ⟨c0d, c1d, c2d, c3d, c4d⟩ := HD.out.b2.all
  obtain ⟨d0d, d1d, d2d, d3d, d4d⟩ := HD.out.b0.all
  obtain ⟨e0d, e1d, e2d, e3d, e4d⟩ := HD.out.b0.frs
  have g0d := HD.out.b1.c0
  have g1d := HD.out.b1.c1
  obtain ⟨i0d, i1d⟩ := HD.out.b1.frs
  have j0d := HD.out.b3.c0
  have j1d := HD.out.b3.c1
  go_region_with (fail)
  all_goals
   go_wp2_with fail
   exact retO5d H1.out ⟨7, (i : Int), [], [], []⟩ x z rfl rfl rfl rfl (fun hb => OutQ.bad_ hb)
 | ok b r =>
  rw [hRN] at KE
  clear hRN
  show Calls _ _ _ _ (OutQ w s (strT i b r))
  unfold strT
  have hsz := ba_len b
  by_cases h200 : 200 < b.length
  · rw [if_pos h200]
    have k1 : (200 : Int) < (b.length : Int) := by omega
    clear h200
    go_enter Tryz.func33, Tryz.ntmps33
    go_upto_region 3 with fail
    generalize ((((w.alloc (.cells #[.int .i64 0, .int .i64 0, .string ⟨#[]⟩, .string ⟨#[]⟩, .string ⟨#[]⟩] 65)).alloc (.cells #[.int .i64 0, .int .i64 0] 26)).alloc (.cells #[.int .i64 0, .int .i64 (i : Int), .string ⟨#[]⟩, .string ⟨#[]⟩, .string ⟨#[]⟩] 65)).alloc (.cells #[.int .i64 0, .int .i64 0] 26)) = W1 at H0 ⊢
    have H1 := Lib.hid H0.out
    clear H0
    obtain ⟨c0, c1, c2, c3, c4⟩ := H1.out.b2.all
    obtain ⟨f0, f1, f2, f3, f4⟩ := H1.out.b2.frs
    go_upto_region 15 with fail
    have H2 : Hid (Q4 w (W1.setCell ⟨w.heap.size + 2, 0, none⟩ (.int .i64 7)) ⟨7, (i : Int), [], [], []⟩ ⟨0, 0, [], [], []⟩ 0 0 0 0) := H1.out.cell 0 (.int .i64 7) rfl
    generalize W1.setCell ⟨w.heap.size + 2, 0, none⟩ (.int .i64 7) = W2 at H2 ⊢
    clear c0 c1 c2 c3 c4 f0 f1 f2 f3 f4 H1
    obtain ⟨W1, rfl⟩ : ∃ W1, W1 = W2 := ⟨_, rfl⟩
    have H1 := Lib.hid H2.out
    clear H2
    go_wp2_with fail
    refine (KE.out _).mono ?_
    rintro e w3 ⟨hb, j, hj, hr, rfl⟩
    have H3 := Lib.hid (H1.out.keep hb)
    have HR := Lib.hid hr
    clear hb H1 hr
    obtain ⟨c0, c1, c2, c3, c4⟩ := H3.out.b2.all
    obtain ⟨f0, f1, f2, f3, f4⟩ := H3.out.b2.frs
    have H4 : Hid (Q4 w (w3.setCell ⟨w.heap.size + 2, 3, none⟩ (.string (BA b))) ⟨7, (i : Int), [], b, []⟩ ⟨0, 0, [], [], []⟩ 0 0 0 0) := H3.out.cell 3 (.string (BA b)) rfl
    go_upto_region 16 with (refine EB.store (.tmp 8) (.tmp 55) rfl rfl (w.heap.size + 3) 0 0 _ _ rfl rfl H4.out.b3 ?_)
    have H1 : Hid (Q4 w ((w3.setCell ⟨w.heap.size + 2, 3, none⟩ (.string (BA b))).setRow (w.heap.size + 3) #[.int .i64 0, .int .i64 0]) ⟨7, (i : Int), [], b, []⟩ ⟨0, 0, [], [], []⟩ 0 0 0 0) := H4.out.err 0 0
    generalize (w3.setCell ⟨w.heap.size + 2, 3, none⟩ (.string (BA b))).setRow (w.heap.size + 3) #[.int .i64 0, .int .i64 0] = W1 at H1 ⊢
    clear c0 c1 c2 c3 c4 f0 f1 f2 f3 f4 H3 H4
    have m0 := H1.out.b3.c0
    have m1 := H1.out.b3.c1
    obtain ⟨c0, c1, c2, c3, c4⟩ := H1.out.b2.all
    go_wp2_with fail
    refine (badR 2 (i : Int) _).mono ?_
    rintro e w5 ⟨rfl, hb⟩
    replace H1 := Lib.hid (H1.out.keep hb)
    clear hb m0 m1 c0 c1 c2 c3 c4
    go_upto_region 18 with (refine EB.store (.tmp 8) (.tmp 68) rfl rfl (w.heap.size + 3) 2 (i : Int) _ _ rfl rfl H1.out.b3 ?_)
    have H2 := Lib.hid (H1.out.err 2 (i : Int))
    generalize w5.setRow (w.heap.size + 3) #[.int .i64 2, .int .i64 (i : Int)] = W1 at H2 ⊢
    have H1 := Lib.hid H2.out
    clear H2
    obtain ⟨c0, c1, c2, c3, c4⟩ := H1.out.b2.all
    obtain ⟨d0, d1, d2, d3, d4⟩ := H1.out.b0.all
    obtain ⟨e0, e1, e2, e3, e4⟩ := H1.out.b0.frs
    have g0 := H1.out.b1.c0
    have g1 := H1.out.b1.c1
    obtain ⟨i0, i1⟩ := H1.out.b1.frs
    have j0 := H1.out.b3.c0
    have j1 := H1.out.b3.c1
    have HD := Lib.hid H1.out.drew
    obtain ⟨c0d, c1d, c2d, c3d, c4d⟩ := HD.out.b2.all
    obtain ⟨d0d, d1d, d2d, d3d, d4d⟩ := HD.out.b0.all
    obtain ⟨e0d, e1d, e2d, e3d, e4d⟩ := HD.out.b0.frs
    have g0d := HD.out.b1.c0
    have g1d := HD.out.b1.c1
    obtain ⟨i0d, i1d⟩ := HD.out.b1.frs
    have j0d := HD.out.b3.c0
    have j1d := HD.out.b3.c1
    go_region_with (fail)
    all_goals
     go_wp2_with fail
     exact retO5d H1.out ⟨7, (i : Int), [], b, []⟩ 2 (i : Int) rfl rfl rfl rfl (fun hb => OutQ.bad_ hb)
  · rw [if_neg h200]
    have k1 : ¬ (200 : Int) < (b.length : Int) := by omega
    clear h200
    go_enter Tryz.func33, Tryz.ntmps33
    go_upto_region 3 with fail
    generalize ((((w.alloc (.cells #[.int .i64 0, .int .i64 0, .string ⟨#[]⟩, .string ⟨#[]⟩, .string ⟨#[]⟩] 65)).alloc (.cells #[.int .i64 0, .int .i64 0] 26)).alloc (.cells #[.int .i64 0, .int .i64 (i : Int), .string ⟨#[]⟩, .string ⟨#[]⟩, .string ⟨#[]⟩] 65)).alloc (.cells #[.int .i64 0, .int .i64 0] 26)) = W1 at H0 ⊢
    have H1 := Lib.hid H0.out
    clear H0
    obtain ⟨c0, c1, c2, c3, c4⟩ := H1.out.b2.all
    obtain ⟨f0, f1, f2, f3, f4⟩ := H1.out.b2.frs
    go_upto_region 15 with fail
    have H2 : Hid (Q4 w (W1.setCell ⟨w.heap.size + 2, 0, none⟩ (.int .i64 7)) ⟨7, (i : Int), [], [], []⟩ ⟨0, 0, [], [], []⟩ 0 0 0 0) := H1.out.cell 0 (.int .i64 7) rfl
    generalize W1.setCell ⟨w.heap.size + 2, 0, none⟩ (.int .i64 7) = W2 at H2 ⊢
    clear c0 c1 c2 c3 c4 f0 f1 f2 f3 f4 H1
    obtain ⟨W1, rfl⟩ : ∃ W1, W1 = W2 := ⟨_, rfl⟩
    have H1 := Lib.hid H2.out
    clear H2
    go_wp2_with fail
    refine (KE.out _).mono ?_
    rintro e w3 ⟨hb, j, hj, hr, rfl⟩
    have H3 := Lib.hid (H1.out.keep hb)
    have HR := Lib.hid hr
    clear hb H1 hr
    obtain ⟨c0, c1, c2, c3, c4⟩ := H3.out.b2.all
    obtain ⟨f0, f1, f2, f3, f4⟩ := H3.out.b2.frs
    have H4 : Hid (Q4 w (w3.setCell ⟨w.heap.size + 2, 3, none⟩ (.string (BA b))) ⟨7, (i : Int), [], b, []⟩ ⟨0, 0, [], [], []⟩ 0 0 0 0) := H3.out.cell 3 (.string (BA b)) rfl
    go_upto_region 16 with (refine EB.store (.tmp 8) (.tmp 55) rfl rfl (w.heap.size + 3) 0 0 _ _ rfl rfl H4.out.b3 ?_)
    have H1 : Hid (Q4 w ((w3.setCell ⟨w.heap.size + 2, 3, none⟩ (.string (BA b))).setRow (w.heap.size + 3) #[.int .i64 0, .int .i64 0]) ⟨7, (i : Int), [], b, []⟩ ⟨0, 0, [], [], []⟩ 0 0 0 0) := H4.out.err 0 0
    generalize (w3.setCell ⟨w.heap.size + 2, 3, none⟩ (.string (BA b))).setRow (w.heap.size + 3) #[.int .i64 0, .int .i64 0] = W1 at H1 ⊢
    clear c0 c1 c2 c3 c4 f0 f1 f2 f3 f4 H3 H4
    have m0 := H1.out.b3.c0
    have m1 := H1.out.b3.c1
    obtain ⟨c0, c1, c2, c3, c4⟩ := H1.out.b2.all
    go_upto_region 18 with fail
    clear m0 m1 c0 c1 c2 c3 c4
    obtain ⟨c0, c1, c2, c3, c4⟩ := H1.out.b2.all
    obtain ⟨d0, d1, d2, d3, d4⟩ := H1.out.b0.all
    obtain ⟨e0, e1, e2, e3, e4⟩ := H1.out.b0.frs
    have g0 := H1.out.b1.c0
    have g1 := H1.out.b1.c1
    obtain ⟨i0, i1⟩ := H1.out.b1.frs
    have j0 := H1.out.b3.c0
    have j1 := H1.out.b3.c1
    have HD := Lib.hid H1.out.drew
    obtain ⟨c0d, c1d, c2d, c3d, c4d⟩ := HD.out.b2.all
    obtain ⟨d0d, d1d, d2d, d3d, d4d⟩ := HD.out.b0.all
    obtain ⟨e0d, e1d, e2d, e3d, e4d⟩ := HD.out.b0.frs
    have g0d := HD.out.b1.c0
    have g1d := HD.out.b1.c1
    obtain ⟨i0d, i1d⟩ := HD.out.b1.frs
    have j0d := HD.out.b3.c0
    have j1d := HD.out.b3.c1
    go_region_with (fail)
    all_goals
     go_wp2_with fail
     exact retO5d H1.out ⟨7, (i : Int), [], b, []⟩ 0 0 rfl rfl rfl rfl (fun hb => OutQ.ok_ hb hj HR.out)
set_option maxHeartbeats 8000000
set_option maxRecDepth 100000

theorem one124R (s : ByteArray) (i : Nat) (hi : i < s.size) (hs : s.size ≤ 6000) (h40 : ¬ s[i] = 40) (h41 : ¬ s[i] = 41) (h39 : ¬ s[i] = 39) (h34 : ¬ s[i] = 34) (h124 : s[i] = 124) (w : World) : Calls Tryz.prog 33 #[.string s, .int .i64 (i : Int)] w (OutQ w s (match encL s.size 124 [] ((LA s).drop (i + 1)) with | .bad e p => .bad e p | .ok b r => symT okP i [] b r)) := by
 have H0 : Hid (Q4 w ((((w.alloc (.cells #[.int .i64 0, .int .i64 0, .string ⟨#[]⟩, .string ⟨#[]⟩, .string ⟨#[]⟩] 65)).alloc (.cells #[.int .i64 0, .int .i64 0] 26)).alloc (.cells #[.int .i64 0, .int .i64 (i : Int), .string ⟨#[]⟩, .string ⟨#[]⟩, .string ⟨#[]⟩] 65)).alloc (.cells #[.int .i64 0, .int .i64 0] 26)) ⟨0, (i : Int), [], [], []⟩ ⟨0, 0, [], [], []⟩ 0 0 0 0) := Q4.new w ⟨0, (i : Int), [], [], []⟩ ⟨0, 0, [], [], []⟩ 0 0 0 0
 have x1 : (0 : Int) ≤ (i : Int) ∧ (i : Int) < (s.size : Int) := by omega
 have e40 : ((s[i].toNat : Int) == 40) = false := int_ne 40 h40
 have e41 : ((s[i].toNat : Int) == 41) = false := int_ne 41 h41
 have e39 : ((s[i].toNat : Int) == 39) = false := int_ne 39 h39
 clear h40 h41 h39
 have e34 : ((s[i].toNat : Int) == 34) = false := int_ne 34 h34
 have e124 : ((s[i].toNat : Int) == 124) = true := int_eq 124 h124
 clear h34 h124
 have KE : Hid (∀ w, Calls Tryz.prog 49 #[.string s, .int .i64 ((i : Int) + 1), .int .u8 124] w (OutE w s (encL s.size 124 [] ((LA s).drop (i + 1))))) := fun w => enclosedR s (i + 1) 124 hi hs w
 cases hRN : encL s.size 124 [] ((LA s).drop (i + 1)) with
 | bad x z =>
  rw [hRN] at KE
  have hz : (x == 0) = false := by rw [beq_eq_false_iff_ne]; exact encL_code hRN
  clear hRN
  show Calls _ _ _ _ (OutQ w s (.bad x z))
  go_enter Tryz.func33, Tryz.ntmps33
  go_upto_region 3 with fail
  generalize ((((w.alloc (.cells #[.int .i64 0, .int .i64 0, .string ⟨#[]⟩, .string ⟨#[]⟩, .string ⟨#[]⟩] 65)).alloc (.cells #[.int .i64 0, .int .i64 0] 26)).alloc (.cells #[.int .i64 0, .int .i64 (i : Int), .string ⟨#[]⟩, .string ⟨#[]⟩, .string ⟨#[]⟩] 65)).alloc (.cells #[.int .i64 0, .int .i64 0] 26)) = W1 at H0 ⊢
  have H1 := Lib.hid H0.out
  clear H0
  obtain ⟨c0, c1, c2, c3, c4⟩ := H1.out.b2.all
  obtain ⟨f0, f1, f2, f3, f4⟩ := H1.out.b2.frs
  go_upto_region 21 with fail
  have H2 : Hid (Q4 w (W1.setCell ⟨w.heap.size + 2, 0, none⟩ (.int .i64 6)) ⟨6, (i : Int), [], [], []⟩ ⟨0, 0, [], [], []⟩ 0 0 0 0) := H1.out.cell 0 (.int .i64 6) rfl
  generalize W1.setCell ⟨w.heap.size + 2, 0, none⟩ (.int .i64 6) = W2 at H2 ⊢
  clear c0 c1 c2 c3 c4 f0 f1 f2 f3 f4 H1
  obtain ⟨W1, rfl⟩ : ∃ W1, W1 = W2 := ⟨_, rfl⟩
  have H1 := Lib.hid H2.out
  clear H2
  go_wp2_with fail
  refine (KE.out _).mono ?_
  rintro e w3 ⟨hb, j, hj, rfl⟩
  have H3 := Lib.hid (H1.out.keep hb)
  clear hb H1
  obtain ⟨c0, c1, c2, c3, c4⟩ := H3.out.b2.all
  obtain ⟨f0, f1, f2, f3, f4⟩ := H3.out.b2.frs
  have H4 : Hid (Q4 w (w3.setCell ⟨w.heap.size + 2, 3, none⟩ (.string (BA []))) ⟨6, (i : Int), [], [], []⟩ ⟨0, 0, [], [], []⟩ 0 0 0 0) := H3.out.cell 3 (.string (BA [])) rfl
  go_upto_region 22 with (refine EB.store (.tmp 8) (.tmp 83) rfl rfl (w.heap.size + 3) x z _ _ rfl rfl H4.out.b3 ?_)
  have H1 : Hid (Q4 w ((w3.setCell ⟨w.heap.size + 2, 3, none⟩ (.string (BA []))).setRow (w.heap.size + 3) #[.int .i64 x, .int .i64 z]) ⟨6, (i : Int), [], [], []⟩ ⟨0, 0, [], [], []⟩ 0 0 x z) := H4.out.err x z
  show Code.wp _ _ _ _ ((w3.setCell ⟨w.heap.size + 2, 3, none⟩ (.string (BA []))).setRow (w.heap.size + 3) #[.int .i64 x, .int .i64 z])
  generalize (w3.setCell ⟨w.heap.size + 2, 3, none⟩ (.string (BA []))).setRow (w.heap.size + 3) #[.int .i64 x, .int .i64 z] = W1 at H1 ⊢
  clear c0 c1 c2 c3 c4 f0 f1 f2 f3 f4 H3 H4
  have m0 := H1.out.b3.c0
  have m1 := H1.out.b3.c1
  obtain ⟨c0, c1, c2, c3, c4⟩ := H1.out.b2.all
  go_upto_region 24 with fail
  clear m0 m1 c0 c1 c2 c3 c4
  obtain ⟨c0, c1, c2, c3, c4⟩ := H1.out.b2.all
  obtain ⟨d0, d1, d2, d3, d4⟩ := H1.out.b0.all
  obtain ⟨e0, e1, e2, e3, e4⟩ := H1.out.b0.frs
  have g0 := H1.out.b1.c0
  have g1 := H1.out.b1.c1
  obtain ⟨i0, i1⟩ := H1.out.b1.frs
  have j0 := H1.out.b3.c0
  have j1 := H1.out.b3.c1
  have HD := Lib.hid H1.out.drew
  obtain ⟨c0d, c1d, c2d, c3d, c4d⟩ := HD.out.b2.all
  obtain ⟨d0d, d1d, d2d, d3d, d4d⟩ := HD.out.b0.all
  obtain ⟨e0d, e1d, e2d, e3d, e4d⟩ := HD.out.b0.frs
  have g0d := HD.out.b1.c0
  have g1d := HD.out.b1.c1
  obtain ⟨i0d, i1d⟩ := HD.out.b1.frs
  have j0d := HD.out.b3.c0
  have j1d := HD.out.b3.c1
  go_region_with (fail)
  all_goals
   go_wp2_with fail
   exact retO5d H1.out ⟨6, (i : Int), [], [], []⟩ x z rfl rfl rfl rfl (fun hb => OutQ.bad_ hb)
 | ok b r =>
  rw [hRN] at KE
  clear hRN
  show Calls _ _ _ _ (OutQ w s (symT okP i [] b r))
  have KN : Hid (∀ w, Calls Tryz.prog 50 #[.agg #[.int .i64 6, .int .i64 (i : Int), .string (BA []), .string (BA b), .string (BA [])], .bool true] w (Sy.RetY w (.agg #[.int .i64 (erX (symT okP i [] b [])), .int .i64 (erP (symT okP i [] b []))]))) := fun w => namedR 6 i [] b [] true (fun h => by cases h) w
  have hsy := symT_cases i [] b r
  generalize symT okP i [] b [] = SN at KN hsy
  generalize symT okP i [] b r = SR at hsy ⊢
  have HSY := Lib.hid hsy
  clear hsy
  go_enter Tryz.func33, Tryz.ntmps33
  go_upto_region 3 with fail
  generalize ((((w.alloc (.cells #[.int .i64 0, .int .i64 0, .string ⟨#[]⟩, .string ⟨#[]⟩, .string ⟨#[]⟩] 65)).alloc (.cells #[.int .i64 0, .int .i64 0] 26)).alloc (.cells #[.int .i64 0, .int .i64 (i : Int), .string ⟨#[]⟩, .string ⟨#[]⟩, .string ⟨#[]⟩] 65)).alloc (.cells #[.int .i64 0, .int .i64 0] 26)) = W1 at H0 ⊢
  have H1 := Lib.hid H0.out
  clear H0
  obtain ⟨c0, c1, c2, c3, c4⟩ := H1.out.b2.all
  obtain ⟨f0, f1, f2, f3, f4⟩ := H1.out.b2.frs
  go_upto_region 21 with fail
  have H2 : Hid (Q4 w (W1.setCell ⟨w.heap.size + 2, 0, none⟩ (.int .i64 6)) ⟨6, (i : Int), [], [], []⟩ ⟨0, 0, [], [], []⟩ 0 0 0 0) := H1.out.cell 0 (.int .i64 6) rfl
  generalize W1.setCell ⟨w.heap.size + 2, 0, none⟩ (.int .i64 6) = W2 at H2 ⊢
  clear c0 c1 c2 c3 c4 f0 f1 f2 f3 f4 H1
  obtain ⟨W1, rfl⟩ : ∃ W1, W1 = W2 := ⟨_, rfl⟩
  have H1 := Lib.hid H2.out
  clear H2
  go_wp2_with fail
  refine (KE.out _).mono ?_
  rintro e w3 ⟨hb, j, hj, hr, rfl⟩
  have H3 := Lib.hid (H1.out.keep hb)
  have HR := Lib.hid hr
  clear hb H1 hr
  obtain ⟨c0, c1, c2, c3, c4⟩ := H3.out.b2.all
  obtain ⟨f0, f1, f2, f3, f4⟩ := H3.out.b2.frs
  have H4 : Hid (Q4 w (w3.setCell ⟨w.heap.size + 2, 3, none⟩ (.string (BA b))) ⟨6, (i : Int), [], b, []⟩ ⟨0, 0, [], [], []⟩ 0 0 0 0) := H3.out.cell 3 (.string (BA b)) rfl
  go_upto_region 22 with (refine EB.store (.tmp 8) (.tmp 83) rfl rfl (w.heap.size + 3) 0 0 _ _ rfl rfl H4.out.b3 ?_)
  have H1 : Hid (Q4 w ((w3.setCell ⟨w.heap.size + 2, 3, none⟩ (.string (BA b))).setRow (w.heap.size + 3) #[.int .i64 0, .int .i64 0]) ⟨6, (i : Int), [], b, []⟩ ⟨0, 0, [], [], []⟩ 0 0 0 0) := H4.out.err 0 0
  generalize (w3.setCell ⟨w.heap.size + 2, 3, none⟩ (.string (BA b))).setRow (w.heap.size + 3) #[.int .i64 0, .int .i64 0] = W1 at H1 ⊢
  clear c0 c1 c2 c3 c4 f0 f1 f2 f3 f4 H3 H4
  have m0 := H1.out.b3.c0
  have m1 := H1.out.b3.c1
  obtain ⟨c0, c1, c2, c3, c4⟩ := H1.out.b2.all
  go_wp2_with fail
  refine (KN.out _).mono ?_
  rintro e w6 ⟨rfl, hb⟩
  replace H1 := Lib.hid (H1.out.keep hb)
  clear hb m0 m1 c0 c1 c2 c3 c4
  go_upto_region 24 with (refine EB.store (.tmp 8) (.tmp 89) rfl rfl (w.heap.size + 3) (erX SN) (erP SN) _ _ rfl rfl H1.out.b3 ?_)
  have H2 := Lib.hid (H1.out.err (erX SN) (erP SN))
  generalize w6.setRow (w.heap.size + 3) #[.int .i64 (erX SN), .int .i64 (erP SN)] = W1 at H2 ⊢
  have H1 := Lib.hid H2.out
  clear H2
  obtain ⟨c0, c1, c2, c3, c4⟩ := H1.out.b2.all
  obtain ⟨d0, d1, d2, d3, d4⟩ := H1.out.b0.all
  obtain ⟨e0, e1, e2, e3, e4⟩ := H1.out.b0.frs
  have g0 := H1.out.b1.c0
  have g1 := H1.out.b1.c1
  obtain ⟨i0, i1⟩ := H1.out.b1.frs
  have j0 := H1.out.b3.c0
  have j1 := H1.out.b3.c1
  have HD := Lib.hid H1.out.drew
  obtain ⟨c0d, c1d, c2d, c3d, c4d⟩ := HD.out.b2.all
  obtain ⟨d0d, d1d, d2d, d3d, d4d⟩ := HD.out.b0.all
  obtain ⟨e0d, e1d, e2d, e3d, e4d⟩ := HD.out.b0.frs
  have g0d := HD.out.b1.c0
  have g1d := HD.out.b1.c1
  obtain ⟨i0d, i1d⟩ := HD.out.b1.frs
  have j0d := HD.out.b3.c0
  have j1d := HD.out.b3.c1
  go_region_with (fail)
  all_goals
   go_wp2_with fail
   exact retO5d H1.out ⟨6, (i : Int), [], b, []⟩ (erX SN) (erP SN) rfl rfl rfl rfl (fun hb => OutQ.sym hb HSY.out j hj HR.out)
theorem oneNoR (s : ByteArray) (i : Nat) (hi : i < s.size) (hs : s.size ≤ 6000) (h40 : ¬ s[i] = 40) (h41 : ¬ s[i] = 41) (h39 : ¬ s[i] = 39) (h34 : ¬ s[i] = 34) (h124 : ¬ s[i] = 124) (hc : conB s[i] = false) (w : World) : Calls Tryz.prog 33 #[.string s, .int .i64 (i : Int)] w (OutQ w s (.bad 12 i)) := by
 have H0 : Hid (Q4 w ((((w.alloc (.cells #[.int .i64 0, .int .i64 0, .string ⟨#[]⟩, .string ⟨#[]⟩, .string ⟨#[]⟩] 65)).alloc (.cells #[.int .i64 0, .int .i64 0] 26)).alloc (.cells #[.int .i64 0, .int .i64 (i : Int), .string ⟨#[]⟩, .string ⟨#[]⟩, .string ⟨#[]⟩] 65)).alloc (.cells #[.int .i64 0, .int .i64 0] 26)) ⟨0, (i : Int), [], [], []⟩ ⟨0, 0, [], [], []⟩ 0 0 0 0) := Q4.new w ⟨0, (i : Int), [], [], []⟩ ⟨0, 0, [], [], []⟩ 0 0 0 0
 have x1 : (0 : Int) ≤ (i : Int) ∧ (i : Int) < (s.size : Int) := by omega
 have e40 : ((s[i].toNat : Int) == 40) = false := int_ne 40 h40
 have e41 : ((s[i].toNat : Int) == 41) = false := int_ne 41 h41
 have e39 : ((s[i].toNat : Int) == 39) = false := int_ne 39 h39
 clear h40 h41 h39
 have e34 : ((s[i].toNat : Int) == 34) = false := int_ne 34 h34
 have e124 : ((s[i].toNat : Int) == 124) = false := int_ne 124 h124
 clear h34 h124
 have HC := Lib.hid hc
 clear hc
 go_enter Tryz.func33, Tryz.ntmps33
 go_upto_region 3 with fail
 generalize ((((w.alloc (.cells #[.int .i64 0, .int .i64 0, .string ⟨#[]⟩, .string ⟨#[]⟩, .string ⟨#[]⟩] 65)).alloc (.cells #[.int .i64 0, .int .i64 0] 26)).alloc (.cells #[.int .i64 0, .int .i64 (i : Int), .string ⟨#[]⟩, .string ⟨#[]⟩, .string ⟨#[]⟩] 65)).alloc (.cells #[.int .i64 0, .int .i64 0] 26)) = W1 at H0 ⊢
 have H1 := Lib.hid H0.out
 clear H0
 go_wp2_with fail
 refine (conR s[i] _).mono ?_
 rintro e w9 ⟨rfl, rfl⟩
 rw [HC.out]
 go_wp2_with fail
 obtain ⟨c0, c1, c2, c3, c4⟩ := H1.out.b2.all
 obtain ⟨d0, d1, d2, d3, d4⟩ := H1.out.b0.all
 obtain ⟨e0, e1, e2, e3, e4⟩ := H1.out.b0.frs
 have g0 := H1.out.b1.c0
 have g1 := H1.out.b1.c1
 obtain ⟨i0, i1⟩ := H1.out.b1.frs
 have j0 := H1.out.b3.c0
 have j1 := H1.out.b3.c1
 have HD := Lib.hid H1.out.drew
 obtain ⟨c0d, c1d, c2d, c3d, c4d⟩ := HD.out.b2.all
 obtain ⟨d0d, d1d, d2d, d3d, d4d⟩ := HD.out.b0.all
 obtain ⟨e0d, e1d, e2d, e3d, e4d⟩ := HD.out.b0.frs
 have g0d := HD.out.b1.c0
 have g1d := HD.out.b1.c1
 obtain ⟨i0d, i1d⟩ := HD.out.b1.frs
 have j0d := HD.out.b3.c0
 have j1d := HD.out.b3.c1
 go_region_with (go_at_call 31; refine (badR _ _ _).mono ?_; rintro e w2 ⟨rfl, hb⟩; have H2 := Lib.hid (HD.out.keep hb); obtain ⟨c0x, c1x, c2x, c3x, c4x⟩ := H2.out.b2.all; obtain ⟨d0x, d1x, d2x, d3x, d4x⟩ := H2.out.b0.all; obtain ⟨e0x, e1x, e2x, e3x, e4x⟩ := H2.out.b0.frs; have g0x := H2.out.b1.c0; have g1x := H2.out.b1.c1; obtain ⟨i0x, i1x⟩ := H2.out.b1.frs; have j0x := H2.out.b3.c0; have j1x := H2.out.b3.c1; clear hb)
 all_goals
  go_wp2_with fail
  exact retO5 H2.out ⟨0, (i : Int), [], [], []⟩ 12 (i : Int) rfl rfl rfl rfl (fun hb => OutQ.bad_ hb)
end Go.Proofs.YtflnffgohbbhiaaGreatDoor
