/- The reference's tokens: words (A). -/
import Derived.Test.YtflnffgohbbhiaaGreatDoorG28
namespace Go.Proofs.YtflnffgohbbhiaaGreatDoor
open Go Go.RowKit
set_option linter.unusedVariables false
set_option maxHeartbeats 8000000 in
set_option maxRecDepth 100000 in
theorem oneWordA (s : ByteArray) (i : Nat) (hi : i < s.size) (hs : s.size ≤ 6000) (h40 : ¬ s[i] = 40) (h41 : ¬ s[i] = 41) (h39 : ¬ s[i] = 39) (h34 : ¬ s[i] = 34) (h124 : ¬ s[i] = 124) (hc : conB s[i] = true) (hp : Lib.hasPrefix (restL ((LA s).drop i)) [58, 58] = true) (w : World) : Calls Tryz.prog 33 #[.string s, .int .i64 (i : Int)] w (OutQ w s (wordT okP numP sizP s.size ((LA s).drop i))) := by
 have H0 : Hid (Q4 w ((((w.alloc (.cells #[.int .i64 0, .int .i64 0, .string ⟨#[]⟩, .string ⟨#[]⟩, .string ⟨#[]⟩] 65)).alloc (.cells #[.int .i64 0, .int .i64 0] 26)).alloc (.cells #[.int .i64 0, .int .i64 (i : Int), .string ⟨#[]⟩, .string ⟨#[]⟩, .string ⟨#[]⟩] 65)).alloc (.cells #[.int .i64 0, .int .i64 0] 26)) ⟨0, (i : Int), [], [], []⟩ ⟨0, 0, [], [], []⟩ 0 0 0 0) := Q4.new w ⟨0, (i : Int), [], [], []⟩ ⟨0, 0, [], [], []⟩ 0 0 0 0
 have x1 : (0 : Int) ≤ (i : Int) ∧ (i : Int) < (s.size : Int) := by omega
 obtain ⟨r', hrr⟩ := (pre58 _).1 hp
 have hpos := posL_drop s (Nat.le_of_lt hi)
 rw [wordT_yes _ _ _ _ _ _ hrr]
 have e40 : ((s[i].toNat : Int) == 40) = false := int_ne 40 h40
 have e41 : ((s[i].toNat : Int) == 41) = false := int_ne 41 h41
 have e39 : ((s[i].toNat : Int) == 39) = false := int_ne 39 h39
 have e34 : ((s[i].toNat : Int) == 34) = false := int_ne 34 h34
 have e124 : ((s[i].toNat : Int) == 124) = false := int_ne 124 h124
 clear h40 h41 h39 h34 h124
 have HC := Lib.hid hc
 clear hc
 obtain ⟨W, hb0⟩ : ∃ W, wordL ((LA s).drop i) = W := ⟨_, rfl⟩
 obtain ⟨r, hr0⟩ : ∃ r, restL ((LA s).drop i) = r := ⟨_, rfl⟩
 have KW : Hid (∀ w, Calls Tryz.prog 52 #[.string s, .int .i64 (i : Int)] w fun e w' => (∃ j : Nat, i ≤ j ∧ j ≤ s.size ∧ e = .returned (.int .i64 (j : Int)) ∧ (LA s).drop j = r ∧ s.extract i j = BA W) ∧ w = w') := fun w => hb0 ▸ hr0 ▸ wordR s i (Nat.le_of_lt hi) hs w
 have hwl : W.length ≤ 6000 := by
  rw [← hb0]
  have h1 := (List.takeWhile_sublist conB (l := (LA s).drop i)).length_le
  rw [List.length_drop, la_length] at h1
  unfold wordL
  omega
 have hwn : W ≠ [] := by
  rw [← hb0, la_drop hi, word_cons HC.out]
  simp
 have hwb := ba_len W
 rw [hr0] at hp hrr
 have hT : wordT1 okP s.size ((LA s).drop i) r' = (match nameL s.size r' with | .bad x z => .bad x z | .ok b r => symT okP i W b r : Sc Tk) := by
  unfold wordT1
  rw [hpos, hb0]
  cases nameL s.size r' <;> rfl
 rw [hT]
 have HP := Lib.hid hp
 clear hp hb0 hr0 hwn hT hpos
 have KQ : Hid (∀ w j, (LA s).drop j = r → Calls Tryz.prog 53 #[.string s, .agg #[.int .i64 0, .int .i64 (i : Int), .string (BA []), .string (BA []), .string (BA [])], .string (BA W), .int .i64 (j : Int)] w (OutQ w s (match nameL s.size r' with | .bad x z => .bad x z | .ok b r => symT okP i W b r : Sc Tk))) := fun w j hj => by
  have hd := drop2 (hj.trans hrr)
  have := qualifiedR s (i : Int) W j hd.2 hs w
  rw [hd.1] at this
  exact this
 clear hrr
 obtain ⟨RQ, hRQ⟩ : ∃ RQ, (match nameL s.size r' with | .bad x z => .bad x z | .ok b r => symT okP i W b r : Sc Tk) = RQ := ⟨_, rfl⟩
 rw [hRQ] at KQ ⊢
 clear hRQ
 cases RQ with
 | bad x z =>
  skip
  go_enter Tryz.func33, Tryz.ntmps33
  go_upto_region 3 with fail
  generalize ((((w.alloc (.cells #[.int .i64 0, .int .i64 0, .string ⟨#[]⟩, .string ⟨#[]⟩, .string ⟨#[]⟩] 65)).alloc (.cells #[.int .i64 0, .int .i64 0] 26)).alloc (.cells #[.int .i64 0, .int .i64 (i : Int), .string ⟨#[]⟩, .string ⟨#[]⟩, .string ⟨#[]⟩] 65)).alloc (.cells #[.int .i64 0, .int .i64 0] 26)) = W1 at H0 ⊢
  have H1 := Lib.hid H0.out
  clear H0
  go_wp2_with fail
  refine (conR s[i] _).mono ?_
  rintro e w9 ⟨rfl, rfl⟩
  rw [HC.out]
  go_wp2_with fail
  refine (KW.out _).mono ?_
  rintro e w8 ⟨⟨j, hij, hj, rfl, hr, hw⟩, rfl⟩
  have HX : Hid (Lib.hasPrefix ((LA s).drop j) [58, 58] = true) := by show _ = _; rw [hr]; exact HP.out
  have HR := Lib.hid hr
  have HWD := Lib.hid hw
  clear hr hw
  have b1 : (0 : Int) ≤ (i : Int) ∧ (i : Int) ≤ (j : Int) ∧ (j : Int) ≤ (s.size : Int) := by omega
  have b2 : (0 : Int) ≤ (i : Int) := by omega
  have b3 : (i : Int) ≤ (j : Int) := by omega
  have b4 : (j : Int) ≤ (s.size : Int) := by omega
  go_wp2_with fail
  refine (hasR s j 58 58 true hj hs HX.out _).mono ?_
  rintro e w7 ⟨rfl, rfl⟩
  rw [HWD.out]
  obtain ⟨c0, c1, c2, c3, c4⟩ := H1.out.b2.all
  go_wp2_with fail
  refine (KQ.out _ _ HR.out).mono ?_
  rintro e w6 ⟨hb, t, jj, rfl⟩
  replace H1 := Lib.hid (H1.out.keep hb)
  clear hb c0 c1 c2 c3 c4
  go_wp2_with (first | (refine TR.store (.tmp 4) (.tmp 116) rfl rfl w.heap.size t _ rfl rfl rfl H1.out.b0 ?_) | (refine EB.store (.tmp 6) (.tmp 118) rfl rfl (w.heap.size + 1) x z _ _ rfl rfl (H1.out.b1.other (by omega)) ?_))
  exact bodyPost_ret (resQ rfl rfl rfl rfl ((H1.out.b0.set (tkC t)).other (by omega)) ((H1.out.b1.other (by omega)).set _ _)) rfl (OutQ.bad_ (bel_set _ (bel_set _ H1.out.bel (Nat.le_refl _)) (Nat.le_succ _)))
 | ok t r9 =>
  skip
  go_enter Tryz.func33, Tryz.ntmps33
  go_upto_region 3 with fail
  generalize ((((w.alloc (.cells #[.int .i64 0, .int .i64 0, .string ⟨#[]⟩, .string ⟨#[]⟩, .string ⟨#[]⟩] 65)).alloc (.cells #[.int .i64 0, .int .i64 0] 26)).alloc (.cells #[.int .i64 0, .int .i64 (i : Int), .string ⟨#[]⟩, .string ⟨#[]⟩, .string ⟨#[]⟩] 65)).alloc (.cells #[.int .i64 0, .int .i64 0] 26)) = W1 at H0 ⊢
  have H1 := Lib.hid H0.out
  clear H0
  go_wp2_with fail
  refine (conR s[i] _).mono ?_
  rintro e w9 ⟨rfl, rfl⟩
  rw [HC.out]
  go_wp2_with fail
  refine (KW.out _).mono ?_
  rintro e w8 ⟨⟨j, hij, hj, rfl, hr, hw⟩, rfl⟩
  have HX : Hid (Lib.hasPrefix ((LA s).drop j) [58, 58] = true) := by show _ = _; rw [hr]; exact HP.out
  have HR := Lib.hid hr
  have HWD := Lib.hid hw
  clear hr hw
  have b1 : (0 : Int) ≤ (i : Int) ∧ (i : Int) ≤ (j : Int) ∧ (j : Int) ≤ (s.size : Int) := by omega
  have b2 : (0 : Int) ≤ (i : Int) := by omega
  have b3 : (i : Int) ≤ (j : Int) := by omega
  have b4 : (j : Int) ≤ (s.size : Int) := by omega
  go_wp2_with fail
  refine (hasR s j 58 58 true hj hs HX.out _).mono ?_
  rintro e w7 ⟨rfl, rfl⟩
  rw [HWD.out]
  obtain ⟨c0, c1, c2, c3, c4⟩ := H1.out.b2.all
  go_wp2_with fail
  refine (KQ.out _ _ HR.out).mono ?_
  rintro e w6 ⟨hb, jj, hjj, hrj, rfl⟩
  replace H1 := Lib.hid (H1.out.keep hb)
  clear hb c0 c1 c2 c3 c4
  have HRJ := Lib.hid hrj
  clear hrj
  go_wp2_with (first | (refine TR.store (.tmp 4) (.tmp 116) rfl rfl w.heap.size t _ rfl rfl rfl H1.out.b0 ?_) | (refine EB.store (.tmp 6) (.tmp 118) rfl rfl (w.heap.size + 1) 0 0 _ _ rfl rfl (H1.out.b1.other (by omega)) ?_))
  exact bodyPost_ret (resQ rfl rfl rfl rfl ((H1.out.b0.set (tkC t)).other (by omega)) ((H1.out.b1.other (by omega)).set _ _)) rfl (OutQ.ok_ (bel_set _ (bel_set _ H1.out.bel (Nat.le_refl _)) (Nat.le_succ _)) hjj HRJ.out)
theorem num46 : numRL [46] = none := by kernel_rfl
set_option maxHeartbeats 8000000 in
set_option maxRecDepth 100000 in
theorem oneWordB1 (s : ByteArray) (i : Nat) (hi : i < s.size) (hs : s.size ≤ 6000) (h40 : ¬ s[i] = 40) (h41 : ¬ s[i] = 41) (h39 : ¬ s[i] = 39) (h34 : ¬ s[i] = 34) (h124 : ¬ s[i] = 124) (hc : conB s[i] = true) (hp : Lib.hasPrefix (restL ((LA s).drop i)) [58, 58] = false) (hw0 : wordL ((LA s).drop i) = [46]) (w : World) : Calls Tryz.prog 33 #[.string s, .int .i64 (i : Int)] w (OutQ w s (wordT okP numP sizP s.size ((LA s).drop i))) := by
 have H0 : Hid (Q4 w ((((w.alloc (.cells #[.int .i64 0, .int .i64 0, .string ⟨#[]⟩, .string ⟨#[]⟩, .string ⟨#[]⟩] 65)).alloc (.cells #[.int .i64 0, .int .i64 0] 26)).alloc (.cells #[.int .i64 0, .int .i64 (i : Int), .string ⟨#[]⟩, .string ⟨#[]⟩, .string ⟨#[]⟩] 65)).alloc (.cells #[.int .i64 0, .int .i64 0] 26)) ⟨0, (i : Int), [], [], []⟩ ⟨0, 0, [], [], []⟩ 0 0 0 0) := Q4.new w ⟨0, (i : Int), [], [], []⟩ ⟨0, 0, [], [], []⟩ 0 0 0 0
 have x1 : (0 : Int) ≤ (i : Int) ∧ (i : Int) < (s.size : Int) := by omega
 have hpos := posL_drop s (Nat.le_of_lt hi)
 rw [wordT_no _ _ _ _ _ hp]
 unfold wordT2
 rw [hpos]
 clear hpos
 have e40 : ((s[i].toNat : Int) == 40) = false := int_ne 40 h40
 have e41 : ((s[i].toNat : Int) == 41) = false := int_ne 41 h41
 have e39 : ((s[i].toNat : Int) == 39) = false := int_ne 39 h39
 have e34 : ((s[i].toNat : Int) == 34) = false := int_ne 34 h34
 have e124 : ((s[i].toNat : Int) == 124) = false := int_ne 124 h124
 clear h40 h41 h39 h34 h124
 have HC := Lib.hid hc
 clear hc
 obtain ⟨W, hb0⟩ : ∃ W, wordL ((LA s).drop i) = W := ⟨_, rfl⟩
 obtain ⟨r, hr0⟩ : ∃ r, restL ((LA s).drop i) = r := ⟨_, rfl⟩
 have KW : Hid (∀ w, Calls Tryz.prog 52 #[.string s, .int .i64 (i : Int)] w fun e w' => (∃ j : Nat, i ≤ j ∧ j ≤ s.size ∧ e = .returned (.int .i64 (j : Int)) ∧ (LA s).drop j = r ∧ s.extract i j = BA W) ∧ w = w') := fun w => hb0 ▸ hr0 ▸ wordR s i (Nat.le_of_lt hi) hs w
 have hwl : W.length ≤ 6000 := by
  rw [← hb0]
  have h1 := (List.takeWhile_sublist conB (l := (LA s).drop i)).length_le
  rw [List.length_drop, la_length] at h1
  unfold wordL
  omega
 have hwn : W ≠ [] := by
  rw [← hb0, la_drop hi, word_cons HC.out]
  simp
 have hwb := ba_len W
 rw [hr0] at hp ⊢
 rw [hb0] at hw0 ⊢
 have HP := Lib.hid hp
 clear hp hb0 hr0
 rw [if_pos hw0]
 subst hw0
 have KNU : Hid (∀ w, Calls Tryz.prog 54 #[.string (BA [46])] w (NuP none w)) := fun w => num46 ▸ numeralR (BA [46]) (by decide) w
 have hz : ((BA [46]).toList == [46]) = true := by rw [ba_toList]; rfl
 go_enter Tryz.func33, Tryz.ntmps33
 go_upto_region 3 with fail
 generalize ((((w.alloc (.cells #[.int .i64 0, .int .i64 0, .string ⟨#[]⟩, .string ⟨#[]⟩, .string ⟨#[]⟩] 65)).alloc (.cells #[.int .i64 0, .int .i64 0] 26)).alloc (.cells #[.int .i64 0, .int .i64 (i : Int), .string ⟨#[]⟩, .string ⟨#[]⟩, .string ⟨#[]⟩] 65)).alloc (.cells #[.int .i64 0, .int .i64 0] 26)) = W1 at H0 ⊢
 have H1 := Lib.hid H0.out
 clear H0
 go_wp2_with fail
 refine (conR s[i] _).mono ?_
 rintro e w9 ⟨rfl, rfl⟩
 rw [HC.out]
 go_wp2_with fail
 refine (KW.out _).mono ?_
 rintro e w8 ⟨⟨j, hij, hj, rfl, hr, hw⟩, rfl⟩
 have HX : Hid (Lib.hasPrefix ((LA s).drop j) [58, 58] = false) := by show _ = _; rw [hr]; exact HP.out
 have HR := Lib.hid hr
 have HWD := Lib.hid hw
 clear hr hw
 have b1 : (0 : Int) ≤ (i : Int) ∧ (i : Int) ≤ (j : Int) ∧ (j : Int) ≤ (s.size : Int) := by omega
 have b2 : (0 : Int) ≤ (i : Int) := by omega
 have b3 : (i : Int) ≤ (j : Int) := by omega
 have b4 : (j : Int) ≤ (s.size : Int) := by omega
 go_wp2_with fail
 refine (hasR s j 58 58 false hj hs HX.out _).mono ?_
 rintro e w7 ⟨rfl, rfl⟩
 rw [HWD.out]
 go_wp2_with fail
 refine (KNU.out _).mono ?_
 rintro e w6 ⟨he, hq⟩
 replace he : e = _ := he
 subst he
 replace H1 := Lib.hid (H1.out.keep (q_below hq))
 clear hq
 obtain ⟨W1, rfl⟩ : ∃ W1 : World, W1 = w6 := ⟨_, rfl⟩
 obtain ⟨c0, c1, c2, c3, c4⟩ := H1.out.b2.all
 obtain ⟨f0, f1, f2, f3, f4⟩ := H1.out.b2.frs
 go_upto_region 44 with fail
 have H2 : Hid (Q4 w (W1.setCell ⟨w.heap.size + 2, 0, none⟩ (.int .i64 3)) ⟨3, (i : Int), [], [], []⟩ ⟨0, 0, [], [], []⟩ 0 0 0 0) := H1.out.cell 0 (.int .i64 3) rfl
 generalize W1.setCell ⟨w.heap.size + 2, 0, none⟩ (.int .i64 3) = W2 at H2 ⊢
 clear c0 c1 c2 c3 c4 f0 f1 f2 f3 f4 H1
 obtain ⟨W1, rfl⟩ : ∃ W1, W1 = W2 := ⟨_, rfl⟩
 have H1 := Lib.hid H2.out
 clear H2
 obtain ⟨c0, c1, c2, c3, c4⟩ := H1.out.b2.all
 obtain ⟨d0, d1, d2, d3, d4⟩ := H1.out.b0.all
 obtain ⟨e0, e1, e2, e3, e4⟩ := H1.out.b0.frs
 have g0 := H1.out.b1.c0
 have g1 := H1.out.b1.c1
 obtain ⟨i0, i1⟩ := H1.out.b1.frs
 have j0 := H1.out.b3.c0
 have j1 := H1.out.b3.c1
 have HD := Lib.hid H1.out.drew
 obtain ⟨c0d, c1d, c2d, c3d, c4d⟩ := HD.out.b2.all
 obtain ⟨d0d, d1d, d2d, d3d, d4d⟩ := HD.out.b0.all
 obtain ⟨e0d, e1d, e2d, e3d, e4d⟩ := HD.out.b0.frs
 have g0d := HD.out.b1.c0
 have g1d := HD.out.b1.c1
 obtain ⟨i0d, i1d⟩ := HD.out.b1.frs
 have j0d := HD.out.b3.c0
 have j1d := HD.out.b3.c1
 go_region_with (fail)
 all_goals
  go_wp2_with fail
  exact retO5d H1.out ⟨3, (i : Int), [], [], []⟩ 0 0 rfl rfl rfl rfl (fun hb => OutQ.ok_ hb hj HR.out)
theorem redR (b : Bool) (X Y : List UInt8) (hX : X.length ≤ 6000) (hY : Y.length ≤ 6000) (w : World) : Calls Tryz.prog 43 #[.string (BA (negS b X)), .string (BA Y)] w (RetQ w (numQ b X Y)) :=
 reduceR_q _ _ w (by have := negS_len b X; have := ba_len (negS b X); omega) (by have := ba_len Y; omega)
set_option maxHeartbeats 8000000 in
set_option maxRecDepth 100000 in
theorem oneWordB2 (s : ByteArray) (i : Nat) (hi : i < s.size) (hs : s.size ≤ 6000) (h40 : ¬ s[i] = 40) (h41 : ¬ s[i] = 41) (h39 : ¬ s[i] = 39) (h34 : ¬ s[i] = 34) (h124 : ¬ s[i] = 124) (hc : conB s[i] = true) (hp : Lib.hasPrefix (restL ((LA s).drop i)) [58, 58] = false) (hw0 : ¬ wordL ((LA s).drop i) = [46]) (b : Bool) (x y : List UInt8) (hn : numL (wordL ((LA s).drop i)) = some (b, x, y)) (w : World) : Calls Tryz.prog 33 #[.string s, .int .i64 (i : Int)] w (OutQ w s (wordT okP numP sizP s.size ((LA s).drop i))) := by
 have H0 : Hid (Q4 w ((((w.alloc (.cells #[.int .i64 0, .int .i64 0, .string ⟨#[]⟩, .string ⟨#[]⟩, .string ⟨#[]⟩] 65)).alloc (.cells #[.int .i64 0, .int .i64 0] 26)).alloc (.cells #[.int .i64 0, .int .i64 (i : Int), .string ⟨#[]⟩, .string ⟨#[]⟩, .string ⟨#[]⟩] 65)).alloc (.cells #[.int .i64 0, .int .i64 0] 26)) ⟨0, (i : Int), [], [], []⟩ ⟨0, 0, [], [], []⟩ 0 0 0 0) := Q4.new w ⟨0, (i : Int), [], [], []⟩ ⟨0, 0, [], [], []⟩ 0 0 0 0
 have x1 : (0 : Int) ≤ (i : Int) ∧ (i : Int) < (s.size : Int) := by omega
 have hpos := posL_drop s (Nat.le_of_lt hi)
 rw [wordT_no _ _ _ _ _ hp]
 unfold wordT2
 rw [hpos]
 clear hpos
 have e40 : ((s[i].toNat : Int) == 40) = false := int_ne 40 h40
 have e41 : ((s[i].toNat : Int) == 41) = false := int_ne 41 h41
 have e39 : ((s[i].toNat : Int) == 39) = false := int_ne 39 h39
 have e34 : ((s[i].toNat : Int) == 34) = false := int_ne 34 h34
 have e124 : ((s[i].toNat : Int) == 124) = false := int_ne 124 h124
 clear h40 h41 h39 h34 h124
 have HC := Lib.hid hc
 clear hc
 obtain ⟨W, hb0⟩ : ∃ W, wordL ((LA s).drop i) = W := ⟨_, rfl⟩
 obtain ⟨r, hr0⟩ : ∃ r, restL ((LA s).drop i) = r := ⟨_, rfl⟩
 have KW : Hid (∀ w, Calls Tryz.prog 52 #[.string s, .int .i64 (i : Int)] w fun e w' => (∃ j : Nat, i ≤ j ∧ j ≤ s.size ∧ e = .returned (.int .i64 (j : Int)) ∧ (LA s).drop j = r ∧ s.extract i j = BA W) ∧ w = w') := fun w => hb0 ▸ hr0 ▸ wordR s i (Nat.le_of_lt hi) hs w
 have hwl : W.length ≤ 6000 := by
  rw [← hb0]
  have h1 := (List.takeWhile_sublist conB (l := (LA s).drop i)).length_le
  rw [List.length_drop, la_length] at h1
  unfold wordL
  omega
 have hwn : W ≠ [] := by
  rw [← hb0, la_drop hi, word_cons HC.out]
  simp
 have hwb := ba_len W
 rw [hr0] at hp ⊢
 rw [hb0] at hw0 hn ⊢
 have HP := Lib.hid hp
 clear hp hb0 hr0
 rw [if_neg hw0, hn]
 have hnl := numL_len hn
 have hpl := plain_both hn
 have hdx := decL_len x
 have hdy := decL_len y
 have KNU : Hid (∀ w, Calls Tryz.prog 54 #[.string (BA W)] w (NuP (some ((if b then [45] else []) ++ x, y)) w)) := fun w => by
  have := numeralR (BA W) (by omega) w
  rw [show LA (BA W) = W from rfl, numR_eq, hn] at this
  exact this
 have hz : ((BA W).toList == [46]) = false := by rw [ba_toList, beq_eq_false_iff_ne]; exact hw0
 clear hn hw0
 obtain ⟨NM, hNM⟩ : ∃ NM, (if b then [45] else []) ++ x = NM := ⟨_, rfl⟩
 rw [hNM] at KNU hpl
 have hnm : NM.length ≤ 6001 := by rw [← hNM]; cases b <;> simp <;> omega
 have KP1 : Hid (∀ w, Calls Tryz.prog 55 #[.string (BA NM)] w (fun e w' => e = .returned (.string (BA (negS b (decL x)))) ∧ w = w')) := fun w => hpl.1 ▸ plainR (BA NM) (by have := ba_len NM; omega) w
 have KP2 : Hid (∀ w, Calls Tryz.prog 55 #[.string (BA y)] w (fun e w' => e = .returned (.string (BA (decL y))) ∧ w = w')) := fun w => hpl.2 ▸ plainR (BA y) (by have := ba_len y; omega) w
 have hX : (decL x).length ≤ 6000 := by omega
 have hY : (decL y).length ≤ 6000 := by omega
 show Calls _ _ _ _ (OutQ w s (numT numP sizP i b x y r))
 unfold numT
 clear hNM hnm hnl hpl hdx hdy
 by_cases h0 : decL y = [48]
 · rw [if_pos h0]
   have hz2 : ((BA (decL y)).toList == [48]) = true := by rw [ba_toList, h0]; rfl
   generalize decL x = X at KP1 hX ⊢
   generalize decL y = Y at KP2 hY hz2 ⊢
   clear h0
   go_enter Tryz.func33, Tryz.ntmps33
   go_upto_region 3 with fail
   generalize ((((w.alloc (.cells #[.int .i64 0, .int .i64 0, .string ⟨#[]⟩, .string ⟨#[]⟩, .string ⟨#[]⟩] 65)).alloc (.cells #[.int .i64 0, .int .i64 0] 26)).alloc (.cells #[.int .i64 0, .int .i64 (i : Int), .string ⟨#[]⟩, .string ⟨#[]⟩, .string ⟨#[]⟩] 65)).alloc (.cells #[.int .i64 0, .int .i64 0] 26)) = W1 at H0 ⊢
   have H1 := Lib.hid H0.out
   clear H0
   go_wp2_with fail
   refine (conR s[i] _).mono ?_
   rintro e w9 ⟨rfl, rfl⟩
   rw [HC.out]
   go_wp2_with fail
   refine (KW.out _).mono ?_
   rintro e w8 ⟨⟨j, hij, hj, rfl, hr, hw⟩, rfl⟩
   have HX : Hid (Lib.hasPrefix ((LA s).drop j) [58, 58] = false) := by show _ = _; rw [hr]; exact HP.out
   have HR := Lib.hid hr
   have HWD := Lib.hid hw
   clear hr hw
   have b1 : (0 : Int) ≤ (i : Int) ∧ (i : Int) ≤ (j : Int) ∧ (j : Int) ≤ (s.size : Int) := by omega
   have b2 : (0 : Int) ≤ (i : Int) := by omega
   have b3 : (i : Int) ≤ (j : Int) := by omega
   have b4 : (j : Int) ≤ (s.size : Int) := by omega
   go_wp2_with fail
   refine (hasR s j 58 58 false hj hs HX.out _).mono ?_
   rintro e w7 ⟨rfl, rfl⟩
   rw [HWD.out]
   go_wp2_with fail
   refine (KNU.out _).mono ?_
   rintro e w6 ⟨he, hq⟩
   replace he : e = _ := he
   subst he
   replace H1 := Lib.hid (H1.out.keep (q_below hq))
   clear hq
   obtain ⟨W1, rfl⟩ : ∃ W1 : World, W1 = w6 := ⟨_, rfl⟩
   go_wp2_with fail
   refine (KP2.out _).mono ?_
   rintro e w5 ⟨rfl, rfl⟩
   go_wp2_with fail
   obtain ⟨c0, c1, c2, c3, c4⟩ := H1.out.b2.all
   obtain ⟨d0, d1, d2, d3, d4⟩ := H1.out.b0.all
   obtain ⟨e0, e1, e2, e3, e4⟩ := H1.out.b0.frs
   have g0 := H1.out.b1.c0
   have g1 := H1.out.b1.c1
   obtain ⟨i0, i1⟩ := H1.out.b1.frs
   have j0 := H1.out.b3.c0
   have j1 := H1.out.b3.c1
   have HD := Lib.hid H1.out.drew
   obtain ⟨c0d, c1d, c2d, c3d, c4d⟩ := HD.out.b2.all
   obtain ⟨d0d, d1d, d2d, d3d, d4d⟩ := HD.out.b0.all
   obtain ⟨e0d, e1d, e2d, e3d, e4d⟩ := HD.out.b0.frs
   have g0d := HD.out.b1.c0
   have g1d := HD.out.b1.c1
   obtain ⟨i0d, i1d⟩ := HD.out.b1.frs
   have j0d := HD.out.b3.c0
   have j1d := HD.out.b3.c1
   go_region_with (go_at_call 31; refine (badR _ _ _).mono ?_; rintro e w2 ⟨rfl, hb⟩; have H2 := Lib.hid (HD.out.keep hb); obtain ⟨c0x, c1x, c2x, c3x, c4x⟩ := H2.out.b2.all; obtain ⟨d0x, d1x, d2x, d3x, d4x⟩ := H2.out.b0.all; obtain ⟨e0x, e1x, e2x, e3x, e4x⟩ := H2.out.b0.frs; have g0x := H2.out.b1.c0; have g1x := H2.out.b1.c1; obtain ⟨i0x, i1x⟩ := H2.out.b1.frs; have j0x := H2.out.b3.c0; have j1x := H2.out.b3.c1; clear hb)
   all_goals
    go_wp2_with fail
    exact retO5 H2.out ⟨0, (i : Int), [], [], []⟩ 12 (i : Int) rfl rfl rfl rfl (fun hb => OutQ.bad_ hb)
 · rw [if_neg h0]
   have hz2 : ((BA (decL y)).toList == [48]) = false := by rw [ba_toList, beq_eq_false_iff_ne]; exact h0
   generalize decL x = X at KP1 hX ⊢
   generalize decL y = Y at KP2 hY hz2 ⊢
   clear h0
   have KR := Lib.hid (fun w => redR b X Y hX hY w)
   have hq := numQ_size (b := b) hX hY
   unfold numP
   generalize numQ b X Y = Q at KR hq ⊢
   have KD1 := Lib.hid (fun w => digitsCountR (nt Q) w hq.1)
   have KD2 := Lib.hid (fun w => digitsCountR (dt Q) w hq.2)
   clear hq hX hY
   show Calls _ _ _ _ (OutQ w s (if 100 < sizP (LA (nt Q)) ∨ 100 < sizP (LA (dt Q)) then .bad 2 i else .ok ⟨5, i, [], LA (nt Q), LA (dt Q)⟩ r))
   rw [show (body (LA (nt Q))).length = sizP (LA (nt Q)) from rfl] at KD1
   rw [show (body (LA (dt Q))).length = sizP (LA (dt Q)) from rfl] at KD2
   generalize sizP (LA (nt Q)) = n1 at KD1 ⊢
   generalize sizP (LA (dt Q)) = n2 at KD2 ⊢
   by_cases h1 : 100 < n1
   · rw [if_pos (.inl h1)]
     have u2 : (100 : Int) < (n1 : Int) := by omega
     clear h1
     go_enter Tryz.func33, Tryz.ntmps33
     go_upto_region 3 with fail
     generalize ((((w.alloc (.cells #[.int .i64 0, .int .i64 0, .string ⟨#[]⟩, .string ⟨#[]⟩, .string ⟨#[]⟩] 65)).alloc (.cells #[.int .i64 0, .int .i64 0] 26)).alloc (.cells #[.int .i64 0, .int .i64 (i : Int), .string ⟨#[]⟩, .string ⟨#[]⟩, .string ⟨#[]⟩] 65)).alloc (.cells #[.int .i64 0, .int .i64 0] 26)) = W1 at H0 ⊢
     have H1 := Lib.hid H0.out
     clear H0
     go_wp2_with fail
     refine (conR s[i] _).mono ?_
     rintro e w9 ⟨rfl, rfl⟩
     rw [HC.out]
     go_wp2_with fail
     refine (KW.out _).mono ?_
     rintro e w8 ⟨⟨j, hij, hj, rfl, hr, hw⟩, rfl⟩
     have HX : Hid (Lib.hasPrefix ((LA s).drop j) [58, 58] = false) := by show _ = _; rw [hr]; exact HP.out
     have HR := Lib.hid hr
     have HWD := Lib.hid hw
     clear hr hw
     have b1 : (0 : Int) ≤ (i : Int) ∧ (i : Int) ≤ (j : Int) ∧ (j : Int) ≤ (s.size : Int) := by omega
     have b2 : (0 : Int) ≤ (i : Int) := by omega
     have b3 : (i : Int) ≤ (j : Int) := by omega
     have b4 : (j : Int) ≤ (s.size : Int) := by omega
     go_wp2_with fail
     refine (hasR s j 58 58 false hj hs HX.out _).mono ?_
     rintro e w7 ⟨rfl, rfl⟩
     rw [HWD.out]
     go_wp2_with fail
     refine (KNU.out _).mono ?_
     rintro e w6 ⟨he, hq⟩
     replace he : e = _ := he
     subst he
     replace H1 := Lib.hid (H1.out.keep (q_below hq))
     clear hq
     obtain ⟨W1, rfl⟩ : ∃ W1 : World, W1 = w6 := ⟨_, rfl⟩
     go_wp2_with fail
     refine (KP2.out _).mono ?_
     rintro e w5 ⟨rfl, rfl⟩
     obtain ⟨c0, c1, c2, c3, c4⟩ := H1.out.b2.all
     obtain ⟨f0, f1, f2, f3, f4⟩ := H1.out.b2.frs
     go_upto_region 41 with fail
     have H2 : Hid (Q4 w (W1.setCell ⟨w.heap.size + 2, 0, none⟩ (.int .i64 5)) ⟨5, (i : Int), [], [], []⟩ ⟨0, 0, [], [], []⟩ 0 0 0 0) := H1.out.cell 0 (.int .i64 5) rfl
     generalize W1.setCell ⟨w.heap.size + 2, 0, none⟩ (.int .i64 5) = W2 at H2 ⊢
     clear c0 c1 c2 c3 c4 f0 f1 f2 f3 f4 H1
     obtain ⟨W1, rfl⟩ : ∃ W1, W1 = W2 := ⟨_, rfl⟩
     have H1 := Lib.hid H2.out
     clear H2
     go_wp2_with fail
     refine (KP1.out _).mono ?_
     rintro e w5 ⟨rfl, rfl⟩
     go_wp2_with fail
     refine (KP2.out _).mono ?_
     rintro e w5 ⟨rfl, rfl⟩
     go_wp2_with fail
     refine (KR.out _).mono ?_
     rintro e w5 ⟨rfl, hb⟩
     replace H1 := Lib.hid (H1.out.keep hb)
     clear hb
     obtain ⟨c0, c1, c2, c3, c4⟩ := H1.out.b2.all
     obtain ⟨f0, f1, f2, f3, f4⟩ := H1.out.b2.frs
     go_upto_region 42 with fail
     have H2 : Hid (Q4 w ((w5.setCell ⟨w.heap.size + 2, 3, none⟩ (.string (nt Q))).setCell ⟨w.heap.size + 2, 4, none⟩ (.string (dt Q))) ⟨5, (i : Int), [], LA (nt Q), LA (dt Q)⟩ ⟨0, 0, [], [], []⟩ 0 0 0 0) := (H1.out.cell (t' := ⟨5, (i : Int), [], LA (nt Q), []⟩) 3 (.string (nt Q)) rfl).cell 4 (.string (dt Q)) rfl
     show Code.wp _ _ _ _ ((w5.setCell ⟨w.heap.size + 2, 3, none⟩ (.string (nt Q))).setCell ⟨w.heap.size + 2, 4, none⟩ (.string (dt Q)))
     generalize (w5.setCell ⟨w.heap.size + 2, 3, none⟩ (.string (nt Q))).setCell ⟨w.heap.size + 2, 4, none⟩ (.string (dt Q)) = W1 at H2 ⊢
     clear c0 c1 c2 c3 c4 f0 f1 f2 f3 f4 H1
     have H1 := Lib.hid H2.out
     clear H2
     have c3 : W1.cell? ⟨w.heap.size + 2, 3, none⟩ = some (.string (nt Q)) := H1.out.b2.all.2.2.2.1
     have c4 : W1.cell? ⟨w.heap.size + 2, 4, none⟩ = some (.string (dt Q)) := H1.out.b2.all.2.2.2.2
     go_wp2_with fail
     refine (KD1.out _).mono ?_
     rintro e w4 ⟨rfl, hb⟩
     replace H1 := Lib.hid (H1.out.keep hb)
     clear hb c3 c4
     have c4 : w4.cell? ⟨w.heap.size + 2, 4, none⟩ = some (.string (dt Q)) := H1.out.b2.all.2.2.2.2
     go_wp2_with fail
     clear c4
     obtain ⟨c0, c1, c2, c3, c4⟩ := H1.out.b2.all
     obtain ⟨d0, d1, d2, d3, d4⟩ := H1.out.b0.all
     obtain ⟨e0, e1, e2, e3, e4⟩ := H1.out.b0.frs
     have g0 := H1.out.b1.c0
     have g1 := H1.out.b1.c1
     obtain ⟨i0, i1⟩ := H1.out.b1.frs
     have j0 := H1.out.b3.c0
     have j1 := H1.out.b3.c1
     have HD := Lib.hid H1.out.drew
     obtain ⟨c0d, c1d, c2d, c3d, c4d⟩ := HD.out.b2.all
     obtain ⟨d0d, d1d, d2d, d3d, d4d⟩ := HD.out.b0.all
     obtain ⟨e0d, e1d, e2d, e3d, e4d⟩ := HD.out.b0.frs
     have g0d := HD.out.b1.c0
     have g1d := HD.out.b1.c1
     obtain ⟨i0d, i1d⟩ := HD.out.b1.frs
     have j0d := HD.out.b3.c0
     have j1d := HD.out.b3.c1
     go_region_with (go_at_call 31; refine (badR _ _ _).mono ?_; rintro e w2 ⟨rfl, hb⟩; have H2 := Lib.hid (HD.out.keep hb); obtain ⟨c0x, c1x, c2x, c3x, c4x⟩ := H2.out.b2.all; obtain ⟨d0x, d1x, d2x, d3x, d4x⟩ := H2.out.b0.all; obtain ⟨e0x, e1x, e2x, e3x, e4x⟩ := H2.out.b0.frs; have g0x := H2.out.b1.c0; have g1x := H2.out.b1.c1; obtain ⟨i0x, i1x⟩ := H2.out.b1.frs; have j0x := H2.out.b3.c0; have j1x := H2.out.b3.c1; clear hb)
     all_goals
      go_wp2_with fail
      exact retO5 H2.out ⟨5, (i : Int), [], LA (nt Q), LA (dt Q)⟩ 2 (i : Int) rfl rfl rfl rfl (fun hb => OutQ.bad_ hb)
   · have u2 : ¬ (100 : Int) < (n1 : Int) := by omega
     by_cases h2 : 100 < n2
     · rw [if_pos (.inr h2)]
       have u4 : (100 : Int) < (n2 : Int) := by omega
       clear h1 h2
       go_enter Tryz.func33, Tryz.ntmps33
       go_upto_region 3 with fail
       generalize ((((w.alloc (.cells #[.int .i64 0, .int .i64 0, .string ⟨#[]⟩, .string ⟨#[]⟩, .string ⟨#[]⟩] 65)).alloc (.cells #[.int .i64 0, .int .i64 0] 26)).alloc (.cells #[.int .i64 0, .int .i64 (i : Int), .string ⟨#[]⟩, .string ⟨#[]⟩, .string ⟨#[]⟩] 65)).alloc (.cells #[.int .i64 0, .int .i64 0] 26)) = W1 at H0 ⊢
       have H1 := Lib.hid H0.out
       clear H0
       go_wp2_with fail
       refine (conR s[i] _).mono ?_
       rintro e w9 ⟨rfl, rfl⟩
       rw [HC.out]
       go_wp2_with fail
       refine (KW.out _).mono ?_
       rintro e w8 ⟨⟨j, hij, hj, rfl, hr, hw⟩, rfl⟩
       have HX : Hid (Lib.hasPrefix ((LA s).drop j) [58, 58] = false) := by show _ = _; rw [hr]; exact HP.out
       have HR := Lib.hid hr
       have HWD := Lib.hid hw
       clear hr hw
       have b1 : (0 : Int) ≤ (i : Int) ∧ (i : Int) ≤ (j : Int) ∧ (j : Int) ≤ (s.size : Int) := by omega
       have b2 : (0 : Int) ≤ (i : Int) := by omega
       have b3 : (i : Int) ≤ (j : Int) := by omega
       have b4 : (j : Int) ≤ (s.size : Int) := by omega
       go_wp2_with fail
       refine (hasR s j 58 58 false hj hs HX.out _).mono ?_
       rintro e w7 ⟨rfl, rfl⟩
       rw [HWD.out]
       go_wp2_with fail
       refine (KNU.out _).mono ?_
       rintro e w6 ⟨he, hq⟩
       replace he : e = _ := he
       subst he
       replace H1 := Lib.hid (H1.out.keep (q_below hq))
       clear hq
       obtain ⟨W1, rfl⟩ : ∃ W1 : World, W1 = w6 := ⟨_, rfl⟩
       go_wp2_with fail
       refine (KP2.out _).mono ?_
       rintro e w5 ⟨rfl, rfl⟩
       obtain ⟨c0, c1, c2, c3, c4⟩ := H1.out.b2.all
       obtain ⟨f0, f1, f2, f3, f4⟩ := H1.out.b2.frs
       go_upto_region 41 with fail
       have H2 : Hid (Q4 w (W1.setCell ⟨w.heap.size + 2, 0, none⟩ (.int .i64 5)) ⟨5, (i : Int), [], [], []⟩ ⟨0, 0, [], [], []⟩ 0 0 0 0) := H1.out.cell 0 (.int .i64 5) rfl
       generalize W1.setCell ⟨w.heap.size + 2, 0, none⟩ (.int .i64 5) = W2 at H2 ⊢
       clear c0 c1 c2 c3 c4 f0 f1 f2 f3 f4 H1
       obtain ⟨W1, rfl⟩ : ∃ W1, W1 = W2 := ⟨_, rfl⟩
       have H1 := Lib.hid H2.out
       clear H2
       go_wp2_with fail
       refine (KP1.out _).mono ?_
       rintro e w5 ⟨rfl, rfl⟩
       go_wp2_with fail
       refine (KP2.out _).mono ?_
       rintro e w5 ⟨rfl, rfl⟩
       go_wp2_with fail
       refine (KR.out _).mono ?_
       rintro e w5 ⟨rfl, hb⟩
       replace H1 := Lib.hid (H1.out.keep hb)
       clear hb
       obtain ⟨c0, c1, c2, c3, c4⟩ := H1.out.b2.all
       obtain ⟨f0, f1, f2, f3, f4⟩ := H1.out.b2.frs
       go_upto_region 42 with fail
       have H2 : Hid (Q4 w ((w5.setCell ⟨w.heap.size + 2, 3, none⟩ (.string (nt Q))).setCell ⟨w.heap.size + 2, 4, none⟩ (.string (dt Q))) ⟨5, (i : Int), [], LA (nt Q), LA (dt Q)⟩ ⟨0, 0, [], [], []⟩ 0 0 0 0) := (H1.out.cell (t' := ⟨5, (i : Int), [], LA (nt Q), []⟩) 3 (.string (nt Q)) rfl).cell 4 (.string (dt Q)) rfl
       show Code.wp _ _ _ _ ((w5.setCell ⟨w.heap.size + 2, 3, none⟩ (.string (nt Q))).setCell ⟨w.heap.size + 2, 4, none⟩ (.string (dt Q)))
       generalize (w5.setCell ⟨w.heap.size + 2, 3, none⟩ (.string (nt Q))).setCell ⟨w.heap.size + 2, 4, none⟩ (.string (dt Q)) = W1 at H2 ⊢
       clear c0 c1 c2 c3 c4 f0 f1 f2 f3 f4 H1
       have H1 := Lib.hid H2.out
       clear H2
       have c3 : W1.cell? ⟨w.heap.size + 2, 3, none⟩ = some (.string (nt Q)) := H1.out.b2.all.2.2.2.1
       have c4 : W1.cell? ⟨w.heap.size + 2, 4, none⟩ = some (.string (dt Q)) := H1.out.b2.all.2.2.2.2
       go_wp2_with fail
       refine (KD1.out _).mono ?_
       rintro e w4 ⟨rfl, hb⟩
       replace H1 := Lib.hid (H1.out.keep hb)
       clear hb c3 c4
       have c4 : w4.cell? ⟨w.heap.size + 2, 4, none⟩ = some (.string (dt Q)) := H1.out.b2.all.2.2.2.2
       go_wp2_with fail
       refine (KD2.out _).mono ?_
       rintro e w3 ⟨rfl, hb⟩
       replace H1 := Lib.hid (H1.out.keep hb)
       clear hb c4
       go_wp2_with fail
       obtain ⟨c0, c1, c2, c3, c4⟩ := H1.out.b2.all
       obtain ⟨d0, d1, d2, d3, d4⟩ := H1.out.b0.all
       obtain ⟨e0, e1, e2, e3, e4⟩ := H1.out.b0.frs
       have g0 := H1.out.b1.c0
       have g1 := H1.out.b1.c1
       obtain ⟨i0, i1⟩ := H1.out.b1.frs
       have j0 := H1.out.b3.c0
       have j1 := H1.out.b3.c1
       have HD := Lib.hid H1.out.drew
       obtain ⟨c0d, c1d, c2d, c3d, c4d⟩ := HD.out.b2.all
       obtain ⟨d0d, d1d, d2d, d3d, d4d⟩ := HD.out.b0.all
       obtain ⟨e0d, e1d, e2d, e3d, e4d⟩ := HD.out.b0.frs
       have g0d := HD.out.b1.c0
       have g1d := HD.out.b1.c1
       obtain ⟨i0d, i1d⟩ := HD.out.b1.frs
       have j0d := HD.out.b3.c0
       have j1d := HD.out.b3.c1
       go_region_with (go_at_call 31; refine (badR _ _ _).mono ?_; rintro e w2 ⟨rfl, hb⟩; have H2 := Lib.hid (HD.out.keep hb); obtain ⟨c0x, c1x, c2x, c3x, c4x⟩ := H2.out.b2.all; obtain ⟨d0x, d1x, d2x, d3x, d4x⟩ := H2.out.b0.all; obtain ⟨e0x, e1x, e2x, e3x, e4x⟩ := H2.out.b0.frs; have g0x := H2.out.b1.c0; have g1x := H2.out.b1.c1; obtain ⟨i0x, i1x⟩ := H2.out.b1.frs; have j0x := H2.out.b3.c0; have j1x := H2.out.b3.c1; clear hb)
       all_goals
        go_wp2_with fail
        exact retO5 H2.out ⟨5, (i : Int), [], LA (nt Q), LA (dt Q)⟩ 2 (i : Int) rfl rfl rfl rfl (fun hb => OutQ.bad_ hb)
     · rw [if_neg (by omega)]
       have u4 : ¬ (100 : Int) < (n2 : Int) := by omega
       clear h1 h2
       go_enter Tryz.func33, Tryz.ntmps33
       go_upto_region 3 with fail
       generalize ((((w.alloc (.cells #[.int .i64 0, .int .i64 0, .string ⟨#[]⟩, .string ⟨#[]⟩, .string ⟨#[]⟩] 65)).alloc (.cells #[.int .i64 0, .int .i64 0] 26)).alloc (.cells #[.int .i64 0, .int .i64 (i : Int), .string ⟨#[]⟩, .string ⟨#[]⟩, .string ⟨#[]⟩] 65)).alloc (.cells #[.int .i64 0, .int .i64 0] 26)) = W1 at H0 ⊢
       have H1 := Lib.hid H0.out
       clear H0
       go_wp2_with fail
       refine (conR s[i] _).mono ?_
       rintro e w9 ⟨rfl, rfl⟩
       rw [HC.out]
       go_wp2_with fail
       refine (KW.out _).mono ?_
       rintro e w8 ⟨⟨j, hij, hj, rfl, hr, hw⟩, rfl⟩
       have HX : Hid (Lib.hasPrefix ((LA s).drop j) [58, 58] = false) := by show _ = _; rw [hr]; exact HP.out
       have HR := Lib.hid hr
       have HWD := Lib.hid hw
       clear hr hw
       have b1 : (0 : Int) ≤ (i : Int) ∧ (i : Int) ≤ (j : Int) ∧ (j : Int) ≤ (s.size : Int) := by omega
       have b2 : (0 : Int) ≤ (i : Int) := by omega
       have b3 : (i : Int) ≤ (j : Int) := by omega
       have b4 : (j : Int) ≤ (s.size : Int) := by omega
       go_wp2_with fail
       refine (hasR s j 58 58 false hj hs HX.out _).mono ?_
       rintro e w7 ⟨rfl, rfl⟩
       rw [HWD.out]
       go_wp2_with fail
       refine (KNU.out _).mono ?_
       rintro e w6 ⟨he, hq⟩
       replace he : e = _ := he
       subst he
       replace H1 := Lib.hid (H1.out.keep (q_below hq))
       clear hq
       obtain ⟨W1, rfl⟩ : ∃ W1 : World, W1 = w6 := ⟨_, rfl⟩
       go_wp2_with fail
       refine (KP2.out _).mono ?_
       rintro e w5 ⟨rfl, rfl⟩
       obtain ⟨c0, c1, c2, c3, c4⟩ := H1.out.b2.all
       obtain ⟨f0, f1, f2, f3, f4⟩ := H1.out.b2.frs
       go_upto_region 41 with fail
       have H2 : Hid (Q4 w (W1.setCell ⟨w.heap.size + 2, 0, none⟩ (.int .i64 5)) ⟨5, (i : Int), [], [], []⟩ ⟨0, 0, [], [], []⟩ 0 0 0 0) := H1.out.cell 0 (.int .i64 5) rfl
       generalize W1.setCell ⟨w.heap.size + 2, 0, none⟩ (.int .i64 5) = W2 at H2 ⊢
       clear c0 c1 c2 c3 c4 f0 f1 f2 f3 f4 H1
       obtain ⟨W1, rfl⟩ : ∃ W1, W1 = W2 := ⟨_, rfl⟩
       have H1 := Lib.hid H2.out
       clear H2
       go_wp2_with fail
       refine (KP1.out _).mono ?_
       rintro e w5 ⟨rfl, rfl⟩
       go_wp2_with fail
       refine (KP2.out _).mono ?_
       rintro e w5 ⟨rfl, rfl⟩
       go_wp2_with fail
       refine (KR.out _).mono ?_
       rintro e w5 ⟨rfl, hb⟩
       replace H1 := Lib.hid (H1.out.keep hb)
       clear hb
       obtain ⟨c0, c1, c2, c3, c4⟩ := H1.out.b2.all
       obtain ⟨f0, f1, f2, f3, f4⟩ := H1.out.b2.frs
       go_upto_region 42 with fail
       have H2 : Hid (Q4 w ((w5.setCell ⟨w.heap.size + 2, 3, none⟩ (.string (nt Q))).setCell ⟨w.heap.size + 2, 4, none⟩ (.string (dt Q))) ⟨5, (i : Int), [], LA (nt Q), LA (dt Q)⟩ ⟨0, 0, [], [], []⟩ 0 0 0 0) := (H1.out.cell (t' := ⟨5, (i : Int), [], LA (nt Q), []⟩) 3 (.string (nt Q)) rfl).cell 4 (.string (dt Q)) rfl
       show Code.wp _ _ _ _ ((w5.setCell ⟨w.heap.size + 2, 3, none⟩ (.string (nt Q))).setCell ⟨w.heap.size + 2, 4, none⟩ (.string (dt Q)))
       generalize (w5.setCell ⟨w.heap.size + 2, 3, none⟩ (.string (nt Q))).setCell ⟨w.heap.size + 2, 4, none⟩ (.string (dt Q)) = W1 at H2 ⊢
       clear c0 c1 c2 c3 c4 f0 f1 f2 f3 f4 H1
       have H1 := Lib.hid H2.out
       clear H2
       have c3 : W1.cell? ⟨w.heap.size + 2, 3, none⟩ = some (.string (nt Q)) := H1.out.b2.all.2.2.2.1
       have c4 : W1.cell? ⟨w.heap.size + 2, 4, none⟩ = some (.string (dt Q)) := H1.out.b2.all.2.2.2.2
       go_wp2_with fail
       refine (KD1.out _).mono ?_
       rintro e w4 ⟨rfl, hb⟩
       replace H1 := Lib.hid (H1.out.keep hb)
       clear hb c3 c4
       have c4 : w4.cell? ⟨w.heap.size + 2, 4, none⟩ = some (.string (dt Q)) := H1.out.b2.all.2.2.2.2
       go_wp2_with fail
       refine (KD2.out _).mono ?_
       rintro e w3 ⟨rfl, hb⟩
       replace H1 := Lib.hid (H1.out.keep hb)
       clear hb c4
       go_wp2_with fail
       obtain ⟨c0, c1, c2, c3, c4⟩ := H1.out.b2.all
       obtain ⟨d0, d1, d2, d3, d4⟩ := H1.out.b0.all
       obtain ⟨e0, e1, e2, e3, e4⟩ := H1.out.b0.frs
       have g0 := H1.out.b1.c0
       have g1 := H1.out.b1.c1
       obtain ⟨i0, i1⟩ := H1.out.b1.frs
       have j0 := H1.out.b3.c0
       have j1 := H1.out.b3.c1
       have HD := Lib.hid H1.out.drew
       obtain ⟨c0d, c1d, c2d, c3d, c4d⟩ := HD.out.b2.all
       obtain ⟨d0d, d1d, d2d, d3d, d4d⟩ := HD.out.b0.all
       obtain ⟨e0d, e1d, e2d, e3d, e4d⟩ := HD.out.b0.frs
       have g0d := HD.out.b1.c0
       have g1d := HD.out.b1.c1
       obtain ⟨i0d, i1d⟩ := HD.out.b1.frs
       have j0d := HD.out.b3.c0
       have j1d := HD.out.b3.c1
       go_region_with (fail)
       all_goals
        go_wp2_with fail
        exact retO5d H1.out ⟨5, (i : Int), [], LA (nt Q), LA (dt Q)⟩ 0 0 rfl rfl rfl rfl (fun hb => OutQ.ok_ hb hj HR.out)
set_option maxHeartbeats 8000000 in
set_option maxRecDepth 100000 in
theorem oneWordB3 (s : ByteArray) (i : Nat) (hi : i < s.size) (hs : s.size ≤ 6000) (h40 : ¬ s[i] = 40) (h41 : ¬ s[i] = 41) (h39 : ¬ s[i] = 39) (h34 : ¬ s[i] = 34) (h124 : ¬ s[i] = 124) (hc : conB s[i] = true) (hp : Lib.hasPrefix (restL ((LA s).drop i)) [58, 58] = false) (hw0 : ¬ wordL ((LA s).drop i) = [46]) (hn : numL (wordL ((LA s).drop i)) = none) (w : World) : Calls Tryz.prog 33 #[.string s, .int .i64 (i : Int)] w (OutQ w s (wordT okP numP sizP s.size ((LA s).drop i))) := by
 have H0 : Hid (Q4 w ((((w.alloc (.cells #[.int .i64 0, .int .i64 0, .string ⟨#[]⟩, .string ⟨#[]⟩, .string ⟨#[]⟩] 65)).alloc (.cells #[.int .i64 0, .int .i64 0] 26)).alloc (.cells #[.int .i64 0, .int .i64 (i : Int), .string ⟨#[]⟩, .string ⟨#[]⟩, .string ⟨#[]⟩] 65)).alloc (.cells #[.int .i64 0, .int .i64 0] 26)) ⟨0, (i : Int), [], [], []⟩ ⟨0, 0, [], [], []⟩ 0 0 0 0) := Q4.new w ⟨0, (i : Int), [], [], []⟩ ⟨0, 0, [], [], []⟩ 0 0 0 0
 have x1 : (0 : Int) ≤ (i : Int) ∧ (i : Int) < (s.size : Int) := by omega
 have hpos := posL_drop s (Nat.le_of_lt hi)
 rw [wordT_no _ _ _ _ _ hp]
 unfold wordT2
 rw [hpos]
 clear hpos
 have e40 : ((s[i].toNat : Int) == 40) = false := int_ne 40 h40
 have e41 : ((s[i].toNat : Int) == 41) = false := int_ne 41 h41
 have e39 : ((s[i].toNat : Int) == 39) = false := int_ne 39 h39
 have e34 : ((s[i].toNat : Int) == 34) = false := int_ne 34 h34
 have e124 : ((s[i].toNat : Int) == 124) = false := int_ne 124 h124
 clear h40 h41 h39 h34 h124
 have HC := Lib.hid hc
 clear hc
 obtain ⟨W, hb0⟩ : ∃ W, wordL ((LA s).drop i) = W := ⟨_, rfl⟩
 obtain ⟨r, hr0⟩ : ∃ r, restL ((LA s).drop i) = r := ⟨_, rfl⟩
 have KW : Hid (∀ w, Calls Tryz.prog 52 #[.string s, .int .i64 (i : Int)] w fun e w' => (∃ j : Nat, i ≤ j ∧ j ≤ s.size ∧ e = .returned (.int .i64 (j : Int)) ∧ (LA s).drop j = r ∧ s.extract i j = BA W) ∧ w = w') := fun w => hb0 ▸ hr0 ▸ wordR s i (Nat.le_of_lt hi) hs w
 have hwl : W.length ≤ 6000 := by
  rw [← hb0]
  have h1 := (List.takeWhile_sublist conB (l := (LA s).drop i)).length_le
  rw [List.length_drop, la_length] at h1
  unfold wordL
  omega
 have hwn : W ≠ [] := by
  rw [← hb0, la_drop hi, word_cons HC.out]
  simp
 have hwb := ba_len W
 rw [hr0] at hp ⊢
 rw [hb0] at hw0 hn ⊢
 have HP := Lib.hid hp
 clear hp hb0 hr0
 skip
 rw [if_neg hw0]
 rw [hn]
 have KNU : Hid (∀ w, Calls Tryz.prog 54 #[.string (BA W)] w (NuP none w)) := fun w => by
  have := numeralR (BA W) (by omega) w
  rw [show LA (BA W) = W from rfl, numR_eq, hn] at this
  exact this
 have hz : ((BA W).toList == [46]) = false := by rw [ba_toList, beq_eq_false_iff_ne]; exact hw0
 clear hn hw0
 have KN : Hid (∀ w, Calls Tryz.prog 50 #[.agg #[.int .i64 6, .int .i64 (i : Int), .string (BA []), .string (BA W), .string (BA [])], .bool false] w (Sy.RetY w (.agg #[.int .i64 (erX (symT okP i [] W [])), .int .i64 (erP (symT okP i [] W []))]))) := fun w => namedR 6 i [] W [] false (fun _ => hwn) w
 show Calls _ _ _ _ (OutQ w s (symT okP i [] W r))
 have hsy := symT_cases i [] W r
 generalize symT okP i [] W [] = SN at KN hsy
 generalize symT okP i [] W r = SR at hsy ⊢
 have HSY := Lib.hid hsy
 clear hsy hwn
 go_enter Tryz.func33, Tryz.ntmps33
 go_upto_region 3 with fail
 generalize ((((w.alloc (.cells #[.int .i64 0, .int .i64 0, .string ⟨#[]⟩, .string ⟨#[]⟩, .string ⟨#[]⟩] 65)).alloc (.cells #[.int .i64 0, .int .i64 0] 26)).alloc (.cells #[.int .i64 0, .int .i64 (i : Int), .string ⟨#[]⟩, .string ⟨#[]⟩, .string ⟨#[]⟩] 65)).alloc (.cells #[.int .i64 0, .int .i64 0] 26)) = W1 at H0 ⊢
 have H1 := Lib.hid H0.out
 clear H0
 go_wp2_with fail
 refine (conR s[i] _).mono ?_
 rintro e w9 ⟨rfl, rfl⟩
 rw [HC.out]
 go_wp2_with fail
 refine (KW.out _).mono ?_
 rintro e w8 ⟨⟨j, hij, hj, rfl, hr, hw⟩, rfl⟩
 have HX : Hid (Lib.hasPrefix ((LA s).drop j) [58, 58] = false) := by show _ = _; rw [hr]; exact HP.out
 have HR := Lib.hid hr
 have HWD := Lib.hid hw
 clear hr hw
 have b1 : (0 : Int) ≤ (i : Int) ∧ (i : Int) ≤ (j : Int) ∧ (j : Int) ≤ (s.size : Int) := by omega
 have b2 : (0 : Int) ≤ (i : Int) := by omega
 have b3 : (i : Int) ≤ (j : Int) := by omega
 have b4 : (j : Int) ≤ (s.size : Int) := by omega
 go_wp2_with fail
 refine (hasR s j 58 58 false hj hs HX.out _).mono ?_
 rintro e w7 ⟨rfl, rfl⟩
 rw [HWD.out]
 go_wp2_with fail
 refine (KNU.out _).mono ?_
 rintro e w6 ⟨he, hq⟩
 replace he : e = _ := he
 subst he
 replace H1 := Lib.hid (H1.out.keep (q_below hq))
 clear hq
 obtain ⟨W1, rfl⟩ : ∃ W1 : World, W1 = w6 := ⟨_, rfl⟩
 obtain ⟨c0, c1, c2, c3, c4⟩ := H1.out.b2.all
 obtain ⟨f0, f1, f2, f3, f4⟩ := H1.out.b2.frs
 go_upto_region 33 with fail
 have H2 : Hid (Q4 w (W1.setCell ⟨w.heap.size + 2, 0, none⟩ (.int .i64 6)) ⟨6, (i : Int), [], [], []⟩ ⟨0, 0, [], [], []⟩ 0 0 0 0) := H1.out.cell 0 (.int .i64 6) rfl
 generalize W1.setCell ⟨w.heap.size + 2, 0, none⟩ (.int .i64 6) = W2 at H2 ⊢
 clear c0 c1 c2 c3 c4 f0 f1 f2 f3 f4 H1
 obtain ⟨W1, rfl⟩ : ∃ W1, W1 = W2 := ⟨_, rfl⟩
 have H1 := Lib.hid H2.out
 clear H2
 obtain ⟨c0, c1, c2, c3, c4⟩ := H1.out.b2.all
 obtain ⟨f0, f1, f2, f3, f4⟩ := H1.out.b2.frs
 go_upto_region 34 with fail
 have H2 : Hid (Q4 w (W1.setCell ⟨w.heap.size + 2, 3, none⟩ (.string (BA W))) ⟨6, (i : Int), [], W, []⟩ ⟨0, 0, [], [], []⟩ 0 0 0 0) := H1.out.cell 3 (.string (BA W)) rfl
 generalize W1.setCell ⟨w.heap.size + 2, 3, none⟩ (.string (BA W)) = W2 at H2 ⊢
 clear c0 c1 c2 c3 c4 f0 f1 f2 f3 f4 H1
 obtain ⟨W1, rfl⟩ : ∃ W1, W1 = W2 := ⟨_, rfl⟩
 have H1 := Lib.hid H2.out
 clear H2
 obtain ⟨c0, c1, c2, c3, c4⟩ := H1.out.b2.all
 go_wp2_with fail
 refine (KN.out _).mono ?_
 rintro e w6 ⟨rfl, hb⟩
 replace H1 := Lib.hid (H1.out.keep hb)
 clear hb c0 c1 c2 c3 c4
 go_upto_region 44 with (refine EB.store (.tmp 8) (.tmp 129) rfl rfl (w.heap.size + 3) (erX SN) (erP SN) _ _ rfl rfl H1.out.b3 ?_)
 have H2 := Lib.hid (H1.out.err (erX SN) (erP SN))
 generalize w6.setRow (w.heap.size + 3) #[.int .i64 (erX SN), .int .i64 (erP SN)] = W1 at H2 ⊢
 have H1 := Lib.hid H2.out
 clear H2
 obtain ⟨c0, c1, c2, c3, c4⟩ := H1.out.b2.all
 obtain ⟨d0, d1, d2, d3, d4⟩ := H1.out.b0.all
 obtain ⟨e0, e1, e2, e3, e4⟩ := H1.out.b0.frs
 have g0 := H1.out.b1.c0
 have g1 := H1.out.b1.c1
 obtain ⟨i0, i1⟩ := H1.out.b1.frs
 have j0 := H1.out.b3.c0
 have j1 := H1.out.b3.c1
 have HD := Lib.hid H1.out.drew
 obtain ⟨c0d, c1d, c2d, c3d, c4d⟩ := HD.out.b2.all
 obtain ⟨d0d, d1d, d2d, d3d, d4d⟩ := HD.out.b0.all
 obtain ⟨e0d, e1d, e2d, e3d, e4d⟩ := HD.out.b0.frs
 have g0d := HD.out.b1.c0
 have g1d := HD.out.b1.c1
 obtain ⟨i0d, i1d⟩ := HD.out.b1.frs
 have j0d := HD.out.b3.c0
 have j1d := HD.out.b3.c1
 go_region_with (fail)
 all_goals
  go_wp2_with fail
  exact retO5d H1.out ⟨6, (i : Int), [], W, []⟩ (erX SN) (erP SN) rfl rfl rfl rfl (fun hb => OutQ.sym hb HSY.out j hj HR.out)
theorem oneR (s : ByteArray) (i : Nat) (hi : i < s.size) (hs : s.size ≤ 6000) (w : World) : Calls Tryz.prog 33 #[.string s, .int .i64 (i : Int)] w (OutQ w s (oneL okP numP sizP s.size s[i] ((LA s).drop (i + 1)))) := by
 rw [one_of _ _ _ s hi]
 by_cases h40 : s[i] = 40
 · rw [if_pos h40]; exact one40R s i hi hs h40 w
 rw [if_neg h40]
 by_cases h41 : s[i] = 41
 · rw [if_pos h41]; exact one41R s i hi hs h41 w
 rw [if_neg h41]
 by_cases h39 : s[i] = 39
 · rw [if_pos h39]; exact one39R s i hi hs h39 w
 rw [if_neg h39]
 by_cases h34 : s[i] = 34
 · rw [if_pos h34]; exact one34R s i hi hs h40 h41 h39 h34 w
 rw [if_neg h34]
 by_cases h124 : s[i] = 124
 · rw [if_pos h124]; exact one124R s i hi hs h40 h41 h39 h34 h124 w
 rw [if_neg h124]
 cases hc : conB s[i] with
 | false => rw [if_neg (by simp)]; exact oneNoR s i hi hs h40 h41 h39 h34 h124 hc w
 | true =>
  rw [if_pos rfl]
  cases hp : Lib.hasPrefix (restL ((LA s).drop i)) [58, 58] with
  | true => exact oneWordA s i hi hs h40 h41 h39 h34 h124 hc hp w
  | false =>
   by_cases hw0 : wordL ((LA s).drop i) = [46]
   · exact oneWordB1 s i hi hs h40 h41 h39 h34 h124 hc hp hw0 w
   · cases hn : numL (wordL ((LA s).drop i)) with
     | none => exact oneWordB3 s i hi hs h40 h41 h39 h34 h124 hc hp hw0 hn w
     | some q => exact oneWordB2 s i hi hs h40 h41 h39 h34 h124 hc hp hw0 q.1 q.2.1 q.2.2 hn w
def OwnR (w : World) (B : Nat) (v : Value) (ts : List Tk) : Prop := w.ownsRow B 65 5 v ts.length (flatT ts)
theorem OwnR.nil_ (w : World) (B : Nat) : OwnR w B (.slice none 0 0) [] := ⟨rfl, .inl ⟨rfl, rfl⟩⟩
theorem OwnR.move {w w' : World} {B : Nat} {v : Value} {ts : List Tk} (h : OwnR w B v ts) (hk : ∀ k, B ≤ k → k < w.heap.size → w'.heap[k]? = w.heap[k]?) : OwnR w' B v ts := by
 refine ⟨h.1, ?_⟩
 rcases h.2 with hn | ⟨g, cap, cur, rfl, hb, hh, h2⟩
 · exact .inl hn
 · exact .inr ⟨g, cap, cur, rfl, hb, (hk g hb (Sy.blk_ltY hh)).trans hh, h2⟩
theorem OwnR.keep {w w' : World} {B : Nat} {v : Value} {ts : List Tk} (h : OwnR w B v ts) (hb : Below w.heap.size w w') : OwnR w' B v ts := h.move fun k _ hk => hb.block k hk
structure KpR (B : Nat) (w w' : World) : Prop where
 bel : Below B w w'
 keep : ∀ k, k < w.heap.size → (∀ cur fr, w.heap[k]? ≠ some (.cells cur 65 fr)) → w'.heap[k]? = w.heap[k]?
theorem infoTR : ∃ i, Tryz.prog.info? 65 = some i ∧ i.zero = some (.agg #[.int .i64 0, .int .i64 0, .string ⟨#[]⟩, .string ⟨#[]⟩, .string ⟨#[]⟩]) ∧ i.size = 5 ∧ i.bytes = 64 := Sy.info_ofY (P := Tryz.prog) (by kernel_rfl)
theorem appTokR {ops : Array Oper} {rest : List Oper} {o : Oper} {a : Act} {w : World} {Q : Exit → Act → World → Prop} (hgd : o.guard = none) (sl x : Operand)
 (ho : o.op = .call { callee := .builtin .append, args := #[sl, x], argTypes := #[29, 29] }) {B : Nat} {v : Value} {ts : List Tk} (hs : a.eval sl = v) (hown : OwnR w B v ts) (t : Tk) (g c : Nat) (hx : a.eval x = .slice (some ⟨g, 0, none⟩) 1 c)
 (hg : w.heap[g]? = some (.cells (tkC t) 65 (0, 0))) (hl : ts.length ≤ 100000) (hB : B ≤ w.heap.size)
 (h : ∀ v' w', OwnR w' B v' (ts ++ [t]) → KpR B w w' → wpList Tryz.prog ops Q rest (a.put o.dst v') w') : wpList Tryz.prog ops Q (o :: rest) a w := by
 obtain ⟨i0, hi, hz0, hz1, hz2⟩ := infoTR
 refine wpList_append_own w hgd sl x 29 ho B 65 i0 _ 5 64 Tryz.underlying29 hi hz0 hz1 hz2 rfl (by decide) v ts.length (flatT ts) hs hown ⟨g, 0, none⟩ 1 c (tkC t).toList hx rfl (cell_row5 hg) (fun u hu => ?_) (by unfold maxLen; omega) (by omega) hB ?_
 · simp [tkC] at hu
   rcases hu with rfl | rfl | rfl | rfl | rfl <;> rfl
 · intro v' w' h1 h2 _
   refine h v' w' ?_ ⟨(Below.refl B w).grown h2 hB (fun k hk => ?_), fun k hk hn => h2.block k hk ?_⟩
   · show w'.ownsRow B 65 5 v' (ts ++ [t]).length (flatT (ts ++ [t]))
     rw [flatT_snoc, List.length_append]
     exact h1
   · rcases hown.2 with ⟨rfl, _⟩ | ⟨g', cap, cur, rfl, hb, _⟩
     · cases hk
     · injection hk with hk; exact hk ▸ hb
   · intro e
     rcases hown.2 with ⟨rfl, _⟩ | ⟨g', cap, cur, rfl, _, hh, _⟩
     · cases e
     · injection e with e
       exact hn cur (0, 0) (e ▸ hh)
theorem OwnR.tk {w : World} {B : Nat} {v : Value} {ts : List Tk} (h : OwnR w B v ts) : TkV w B ts v := by
 rcases h.2 with ⟨rfl, hn⟩ | ⟨g, cap, cur, rfl, hb, hh, hn, hm, hcs, hcur⟩
 · exact ⟨none, 0, by rw [hn], by omega, by decide, fun h0 => by omega⟩
 · refine ⟨_, cap, rfl, hn, hm, fun _ => ⟨g, 0, rfl, ⟨hb, Sy.blk_ltY hh⟩, fun j u hj => ?_⟩⟩
   rw [Nat.zero_add, cell_of_row _ _ _ _ _ _ hh]
   rw [← hcur] at hj
   rw [List.getElem?_take] at hj
   split at hj
   · simpa using hj
   · cases hj
theorem nameL_code {n : Nat} {l : List UInt8} {x p : Int} (h : nameL n l = .bad x p) : x ≠ 0 := by
 cases l with
 | nil => rw [nameL] at h; injection h with h; omega
 | cons c l =>
  rw [nameL] at h
  split at h
  · exact encL_code h
  · split at h
    · cases h
    · injection h with h; omega
theorem OutQ.badx {w w' : World} {s : ByteArray} {x p : Int} {e : Ending} (h : OutQ w s (.bad x p) e w') : Below w.heap.size w w' ∧ ∃ (tk tp : Int) (tq tt td : List UInt8) (j : Int), e = .returned (.tuple #[.agg #[.int .i64 tk, .int .i64 tp, .string (BA tq), .string (BA tt), .string (BA td)], .int .i64 j, .agg #[.int .i64 x, .int .i64 p]]) := by
 obtain ⟨hb, ⟨tk, tp, tq, tt, td⟩, j, he⟩ := h
 exact ⟨hb, tk, tp, tq, tt, td, j, he⟩
theorem OutQ.okx {w w' : World} {s : ByteArray} {tk tp : Int} {tq tt td r : List UInt8} {e : Ending} (h : OutQ w s (.ok ⟨tk, tp, tq, tt, td⟩ r) e w') : Below w.heap.size w w' ∧ ∃ j : Nat, j ≤ s.size ∧ (LA s).drop j = r ∧ e = .returned (.tuple #[.agg #[.int .i64 tk, .int .i64 tp, .string (BA tq), .string (BA tt), .string (BA td)], .int .i64 (j : Int), .agg #[.int .i64 0, .int .i64 0]]) := h
theorem oneL_code {n : Nat} {c : UInt8} {l : List UInt8} {x p : Int} (h : oneL okP numP sizP n c l = .bad x p) : x ≠ 0 := by
 have hs : ∀ {p' : Int} {q b r : List UInt8}, symT okP p' q b r = .bad x p → x ≠ 0 := by
  intro p' q b r h
  unfold symT at h
  repeat' split at h
  all_goals first | (injection h with h1; omega) | (cases h; done)
 unfold oneL at h
 split at h
 · cases h
 split at h
 · cases h
 split at h
 · cases h
 split at h
 · split at h
   · rename_i he
     injection h with h1
     subst h1
     exact encL_code he
   · split at h
     · injection h with h1; omega
     · cases h
 split at h
 · split at h
   · rename_i he
     injection h with h1
     subst h1
     exact encL_code he
   · exact hs h
 split at h
 · unfold wordT at h
   split at h
   · split at h
     · rename_i hn
       injection h with h1
       subst h1
       exact nameL_code hn
     · exact hs h
   · split at h
     · cases h
     · split at h
       · unfold numT at h
         repeat' split at h
         all_goals first | (injection h with h1; omega) | (cases h; done)
       · exact hs h
 · injection h with h1; omega
structure ToR (w wr : World) (s : ByteArray) (v : Value) (acc : List Tk) (R : Except (Int × Int) (List Tk)) (j : Nat) : Prop where
 bel : Below w.heap.size w wr
 box : EB wr w.heap.size (.int .i64 0) (.int .i64 0)
 own : OwnR wr (w.heap.size + 1) v acc
 eq : preE acc (toksL okP numP sizP s.size ((LA s).drop j)) = R
 len : acc.length ≤ j
theorem ToR.keep {w wr w1 : World} {s : ByteArray} {v : Value} {acc : List Tk} {R : Except (Int × Int) (List Tk)} {j : Nat} (h : ToR w wr s v acc R j) (hb : Below wr.heap.size wr w1) : ToR w w1 s v acc R j := ⟨chain5 h.bel hb, h.box.keep hb, h.own.keep hb, h.eq, h.len⟩
theorem EB.kpR {w w' : World} {g B : Nat} {x y : Value} (h : EB w g x y) (hk : KpR B w w') (hg : g < B) : EB w' g x y := (hk.bel.block g hg).trans h
theorem drop_lt {s : ByteArray} {j : Nat} {c : UInt8} {l : List UInt8} (h : (LA s).drop j = c :: l) : ∃ hlt : j < s.size, s[j] = c ∧ (LA s).drop (j + 1) = l := by
 have hlt : j < s.size := by
  have := congrArg List.length h
  rw [List.length_drop, la_length, List.length_cons] at this
  omega
 refine ⟨hlt, ?_⟩
 rw [la_drop hlt] at h
 injection h with h1 h2
 exact ⟨h1, h2⟩
theorem drop_end {s : ByteArray} {j : Nat} (hj : j ≤ s.size) (h : (LA s).drop j = []) : j = s.size := by
 have := congrArg List.length h
 rw [List.length_drop, la_length] at this
 simp at this
 omega
set_option maxHeartbeats 8000000 in
set_option maxRecDepth 100000 in
theorem tokensR (s : ByteArray) (w : World) (hs63 : s.size ≤ 1000000000) : Calls Tryz.prog 12 #[.string s] w (OutV w (scanS s)) := by
 unfold scanS
 have H0 : Hid (EB (w.alloc (.cells #[.int .i64 0, .int .i64 0] 26)) w.heap.size (.int .i64 0) (.int .i64 0)) := EB.new _ _ _
 have HB0 := Lib.hid (show Below w.heap.size w (w.alloc (.cells #[.int .i64 0, .int .i64 0] 26)) from Below.alloc (Below.refl _ _) (Nat.le_refl _) _)
 by_cases hbig : 6000 < s.size
 · rw [if_pos hbig]
   have h1 : (6000 : Int) < (s.size : Int) := by omega
   clear hbig
   go_enter Tryz.func12, Tryz.ntmps12
   go_wp2_with fail
   refine (badR 2 0 _).mono ?_
   rintro e w5 ⟨rfl, hb⟩
   have HT := Lib.hid (H0.out.keep hb)
   have HB := Lib.hid (chain5 HB0.out hb)
   clear hb
   go_wp2_with (refine EB.store (.tmp 3) (.tmp 14) rfl rfl w.heap.size 2 0 _ _ rfl rfl HT.out ?_)
   exact bodyPost_ret (resTE rfl rfl rfl (HT.out.set _ _)) rfl ⟨bel_set _ HB.out (Nat.le_refl _), rfl⟩
 · rw [if_neg hbig]
   have h1 : ¬ (6000 : Int) < (s.size : Int) := by omega
   have hs : s.size ≤ 6000 := by omega
   clear hbig
   unfold toksS
   obtain ⟨R, hR⟩ : ∃ R, toksL okP numP sizP s.size (LA s) = R := ⟨_, rfl⟩
   rw [hR]
   have HE0 : Hid (ToR w (w.alloc (.cells #[.int .i64 0, .int .i64 0] 26)) s (.slice none 0 0) [] R 0) := ⟨HB0.out, H0.out, OwnR.nil_ _ _, by rw [List.drop_zero, hR]; cases R <;> rfl, Nat.le_refl _⟩
   clear hR H0 HB0
   go_enter Tryz.func12, Tryz.ntmps12
   go_wp2_with fail
   go_loopw [4, 5] (fun v u wr => ∃ (j : Nat) (acc : List Tk) (sl : Value), j ≤ s.size ∧ sl = v ∧ u = .int .i64 (j : Int) ∧ Hid (ToR w wr s sl acc R j)) (fun _ u _ => s.size + 1 - (intOf u).toNat)
   case atStart => exact ⟨0, [], _, Nat.zero_le _, rfl, rfl, HE0⟩
   case round =>
    clear HE0
    obtain ⟨j, acc, sl, hj, rfl, rfl, HE⟩ := hrel
    obtain ⟨wo, rfl⟩ : ∃ wo : World, wo = wr := ⟨_, rfl⟩
    have hR := HE.out.eq
    have hacc := HE.out.len
    have KS := Lib.hid (fun w => skipR s j hj hs w)
    cases hS : skipL ((LA s).drop j) with
    | none =>
     rw [toks_none _ _ _ hS] at hR
     rw [hS] at KS
     have HR := Lib.hid hR
     clear hR hS
     go_wp2_with fail
     refine (KS.out _).mono ?_
     rintro e w1 ⟨⟨j1, hj1, rfl⟩, rfl⟩
     go_wp2_with fail
     refine (badR 11 _ _).mono ?_
     rintro e w5 ⟨rfl, hb⟩
     have HT := Lib.hid (HE.out.box.keep hb)
     have HB := Lib.hid (chain5 HE.out.bel hb)
     clear hb
     go_wp2_with (refine EB.store (.tmp 3) (.tmp 25) rfl rfl w.heap.size 11 _ _ _ rfl rfl HT.out ?_)
     refine bodyPost_ret (resTE rfl rfl rfl (HT.out.set _ _)) rfl ?_
     rw [← HR.out]
     exact ⟨bel_set _ HB.out (Nat.le_refl _), rfl⟩
    | some l0 =>
     rw [toks_some _ _ _ hS] at hR
     rw [hS] at KS
     have hle := skipL_le hS
     rw [List.length_drop, la_length] at hle
     have HLE := Lib.hid hle
     clear hS hle
     cases l0 with
     | nil =>
      have HR := Lib.hid (show Except.ok (acc ++ [⟨0, s.size, [], [], []⟩]) = R from hR)
      clear hR
      go_wp2_with fail
      refine (KS.out _).mono ?_
      rintro e w1 ⟨⟨j1, hj1, hd, rfl⟩, rfl⟩
      have hje := drop_end hj1 hd
      have k1 : (s.size : Int) ≤ (j1 : Int) := by omega
      clear hd hje
      have hal := Lib.hid (show Below wo.heap.size wo (wo.alloc (.cells (tkC ⟨0, (s.size : Int), [], [], []⟩) 65)) from Below.alloc (Below.refl _ _) (Nat.le_refl _) _)
      have hnw := Lib.hid (heap_alloc_new wo (.cells (tkC ⟨0, (s.size : Int), [], [], []⟩) 65))
      have hob := Lib.hid (HE.out.own.keep hal.out)
      have hsz := Lib.hid (Nat.le_trans HE.out.box.lt hal.out.size)
      go_wp2_with (first
       | (at_builtin; refine appTokR rfl (.tmp 30) (.tmp 34) rfl rfl hob.out ⟨0, (s.size : Int), [], [], []⟩ wo.heap.size 1 rfl hnw.out (by omega) hsz.out ?_; intro v3 w4 h3 j3; have HT := Lib.hid ((HE.out.box.keep hal.out).kpR j3 (Nat.lt_succ_self _)); have HB := Lib.hid ((chain5 HE.out.bel hal.out).trans (j3.bel.mono (Nat.le_succ _))); have HO := Lib.hid h3; clear h3 j3)
       | (refine EB.store (.tmp 3) (.tmp 36) rfl rfl w.heap.size 0 0 _ _ rfl rfl HT.out ?_))
      refine bodyPost_ret (resTE rfl rfl rfl (HT.out.set _ _)) rfl ?_
      rw [← HR.out]
      refine ⟨bel_set _ HB.out (Nat.le_refl _), _, rfl, ?_⟩
      exact (HO.out.tk.move (by simp) (Nat.le_succ _) fun b hb _ => setRow_other _ _ _ _ (by omega))
     | cons ch l' =>
      cases hT : oneL okP numP sizP s.size ch l' with
      | bad x p =>
       have HR : Hid (Except.error (x, p) = R) := by
        show _ = _
        rw [← hR, contL, hT]
        rfl
       have hx := oneL_code hT
       have hz : (x != 0) = true := by rw [bne_iff_ne]; exact hx
       have KO : Hid (∀ w j, (LA s).drop j = ch :: l' → Calls Tryz.prog 33 #[.string s, .int .i64 (j : Int)] w (OutQ w s (.bad x p))) := fun w j hd => by
        obtain ⟨h1, h2, h3⟩ := drop_lt hd
        have := oneR s j h1 hs w
        rw [h2, h3, hT] at this
        exact this
       clear hR hT hx
       go_wp2_with fail
       refine (KS.out _).mono ?_
       rintro e w1 ⟨⟨j1, hj1, hd, rfl⟩, rfl⟩
       have HD := Lib.hid hd
       have k1 : ¬ (s.size : Int) ≤ (j1 : Int) := by obtain ⟨h1, _⟩ := drop_lt hd; omega
       clear hd
       go_wp2_with fail
       refine (KO.out _ _ HD.out).mono ?_
       intro e w2 ho
       obtain ⟨hb, tk, tp, tq, tt, td, j2, rfl⟩ := ho.badx
       clear ho
       replace HE := Lib.hid (HE.out.keep hb)
       clear hb
       go_upto_region 11 with fail
       have HA := Lib.hid (al2 w2 (.cells (tkC ⟨tk, tp, tq, tt, td⟩) 65) (.cells #[.int .i64 x, .int .i64 p] 26))
       have HX : Hid (EB ((w2.alloc (.cells #[.int .i64 tk, .int .i64 tp, .string (BA tq), .string (BA tt), .string (BA td)] 65)).alloc (.cells #[.int .i64 x, .int .i64 p] 26)) (w2.heap.size + 1) (.int .i64 x) (.int .i64 p)) := by
        show EB _ _ _ _
        have := EB.new (w2.alloc (.cells #[.int .i64 tk, .int .i64 tp, .string (BA tq), .string (BA tt), .string (BA td)] 65)) (.int .i64 x) (.int .i64 p)
        simpa using this
       have HW2 : Hid (EB ((w2.alloc (.cells #[.int .i64 tk, .int .i64 tp, .string (BA tq), .string (BA tt), .string (BA td)] 65)).alloc (.cells #[.int .i64 x, .int .i64 p] 26)) w.heap.size (.int .i64 0) (.int .i64 0) ∧ Below w.heap.size w ((w2.alloc (.cells #[.int .i64 tk, .int .i64 tp, .string (BA tq), .string (BA tt), .string (BA td)] 65)).alloc (.cells #[.int .i64 x, .int .i64 p] 26))) := ⟨HE.out.box.keep HA.out, chain5 HE.out.bel HA.out⟩
       have hlt := HE.out.box.lt
       have n1 : ¬ w2.heap.size + 1 = w.heap.size := by omega
       have n2 : ¬ w.heap.size = w2.heap.size + 1 := by omega
       generalize ((w2.alloc (.cells #[.int .i64 tk, .int .i64 tp, .string (BA tq), .string (BA tt), .string (BA td)] 65)).alloc (.cells #[.int .i64 x, .int .i64 p] 26)) = W3 at HX HW2 ⊢
       generalize w2.heap.size + 1 = G at HX n1 n2 ⊢
       clear HA hlt
       have c0 := HX.out.c0
       have c1 := HX.out.c1
       go_wp2_with fail
       have d0 := HW2.out.1.c0
       have d1 := HW2.out.1.c1
       obtain ⟨f0, f1⟩ := HW2.out.1.frs
       have HXd := Lib.hid (HX.out.keep ((Below.refl _ _).drew))
       have HWd := Lib.hid (HW2.out.1.keep ((Below.refl _ _).drew))
       have c0d := HXd.out.c0
       have c1d := HXd.out.c1
       have d0d := HWd.out.c0
       have d1d := HWd.out.c1
       obtain ⟨f0d, f1d⟩ := HWd.out.frs
       go_region_with (fail)
       all_goals
        go_wp2_with fail
        refine bodyPost_ret (resTE rfl rfl rfl ((HW2.out.1.cell2 _ _).keep ((Below.refl _ _).drew))) rfl ?_
        rw [← HR.out]
        exact ⟨((HW2.out.2.setCell (Nat.le_refl _) _).setCell (Nat.le_refl _) _).drew, rfl⟩
      | ok t r =>
       have hlen := oneL_le _ _ _ hT
       have HR2 : Hid (preE (acc ++ [t]) (toksL okP numP sizP s.size r) = R) := by
        show _ = _
        rw [← preE_one, ← hR, contL, hT]
       have hl2 := HLE.out
       rw [List.length_cons] at hl2
       have HL2 : Hid (r.length + 1 ≤ s.size - j) := by show _ ≤ _; omega
       have KO : Hid (∀ w j, (LA s).drop j = ch :: l' → Calls Tryz.prog 33 #[.string s, .int .i64 (j : Int)] w (OutQ w s (.ok t r))) := fun w j hd => by
        obtain ⟨h1, h2, h3⟩ := drop_lt hd
        have := oneR s j h1 hs w
        rw [h2, h3, hT] at this
        exact this
       clear hR hT hlen hl2
       obtain ⟨tk, tp, tq, tt, td⟩ := t
       go_wp2_with fail
       refine (KS.out _).mono ?_
       rintro e w1 ⟨⟨j1, hj1, hd, rfl⟩, rfl⟩
       have HD := Lib.hid hd
       have k1 : ¬ (s.size : Int) ≤ (j1 : Int) := by obtain ⟨h1, _⟩ := drop_lt hd; omega
       clear hd
       go_wp2_with fail
       refine (KO.out _ _ HD.out).mono ?_
       intro e w2 ho
       obtain ⟨hb, j2, hj2, hd2, rfl⟩ := ho.okx
       clear ho
       have HD2 := Lib.hid hd2
       replace HE := Lib.hid (HE.out.keep hb)
       clear hb hd2
       go_upto_region 11 with fail
       have HA := Lib.hid (al2 w2 (.cells (tkC ⟨tk, tp, tq, tt, td⟩) 65) (.cells #[.int .i64 0, .int .i64 0] 26))
       have HX : Hid (EB ((w2.alloc (.cells #[.int .i64 tk, .int .i64 tp, .string (BA tq), .string (BA tt), .string (BA td)] 65)).alloc (.cells #[.int .i64 0, .int .i64 0] 26)) (w2.heap.size + 1) (.int .i64 0) (.int .i64 0)) := by
        show EB _ _ _ _
        have := EB.new (w2.alloc (.cells #[.int .i64 tk, .int .i64 tp, .string (BA tq), .string (BA tt), .string (BA td)] 65)) (.int .i64 0) (.int .i64 0)
        simpa using this
       have HT : Hid (TR ((w2.alloc (.cells #[.int .i64 tk, .int .i64 tp, .string (BA tq), .string (BA tt), .string (BA td)] 65)).alloc (.cells #[.int .i64 0, .int .i64 0] 26)) w2.heap.size (tkC ⟨tk, tp, tq, tt, td⟩)) := heap_old1 _ _ _
       replace HE : Hid (ToR w ((w2.alloc (.cells #[.int .i64 tk, .int .i64 tp, .string (BA tq), .string (BA tt), .string (BA td)] 65)).alloc (.cells #[.int .i64 0, .int .i64 0] 26)) s sl acc R j) := HE.out.keep HA.out
       generalize ((w2.alloc (.cells #[.int .i64 tk, .int .i64 tp, .string (BA tq), .string (BA tt), .string (BA td)] 65)).alloc (.cells #[.int .i64 0, .int .i64 0] 26)) = W3 at HX HT HE ⊢
       generalize w2.heap.size + 1 = G at HX ⊢
       generalize w2.heap.size = G2 at HT ⊢
       clear HA
       have c0 := HX.out.c0
       have c1 := HX.out.c1
       obtain ⟨t0, t1, t2, t3, t4⟩ := HT.out.all
       have hal := Lib.hid (show Below W3.heap.size W3 (W3.alloc (.cells (tkC ⟨tk, tp, tq, tt, td⟩) 65)) from Below.alloc (Below.refl _ _) (Nat.le_refl _) _)
       have hnw := Lib.hid (heap_alloc_new W3 (.cells (tkC ⟨tk, tp, tq, tt, td⟩) 65))
       have hob := Lib.hid (HE.out.own.keep hal.out)
       have hsz := Lib.hid (Nat.le_trans HE.out.box.lt hal.out.size)
       go_wp2_with (at_builtin; refine appTokR rfl (.tmp 48) (.tmp 50) rfl rfl hob.out ⟨tk, tp, tq, tt, td⟩ W3.heap.size 1 rfl hnw.out (by omega) hsz.out ?_)
       intro v3 w4 h3 j3
       have HN : Hid (ToR w w4 s v3 (acc ++ [⟨tk, tp, tq, tt, td⟩]) R j2) := ⟨(chain5 HE.out.bel hal.out).trans (j3.bel.mono (Nat.le_succ _)), (HE.out.box.keep hal.out).kpR j3 (Nat.lt_succ_self _), h3, by rw [HD2.out]; exact HR2.out, by
        have h1 := HL2.out
        have h2 := len_drop hj2 HD2.out
        rw [List.length_append]
        simp only [List.length_cons, List.length_nil]
        omega⟩
       have HM : Hid (j < j2) := by
        have h1 := HL2.out
        have h2 := len_drop hj2 HD2.out
        show _ < _
        omega
       clear h3 j3 hal hnw hob hsz c0 c1 t0 t1 t2 t3 t4
       go_wp2
       go_roundw
       case rel => exact ⟨j2, _, _, hj2, rfl, by go_num, HN⟩
       case measure =>
        have := HM.out
        simp [intOf]
        omega
end Go.Proofs.YtflnffgohbbhiaaGreatDoor
