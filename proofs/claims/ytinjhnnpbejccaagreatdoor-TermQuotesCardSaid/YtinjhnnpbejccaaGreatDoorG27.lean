/- The program: names of terms. -/
import Derived.Test.YtinjhnnpbejccaaGreatDoorG19
import Derived.Test.YtinjhnnpbejccaaGreatDoorG26
import Derived.Sort.QuietIn
import Derived.Sort.QuietTacIn
import Derived.Shelf.RegionOpen
import Derived.Test.YtinjhnnpbejccaaGreatDoorG24
import Derived.Test.YtinjhnnpbejccaaGreatDoorG21
namespace Go.Proofs.YtinjhnnpbejccaaGreatDoor
open Go Go.RowKit
set_option linter.unusedVariables false
set_option maxHeartbeats 32000000
set_option maxRecDepth 100000
attribute [local go_sem] Oper.semAt_some
theorem namesT (kd : Int) (ts : List Tm) (A : Option Addr) (c : Nat) (w : World) (S : Nat → Prop) (hS : In S w) (ha : ArgsAt w S ts A c) (hsh : ∀ u ∈ subsTs ts, NmOk u) (hn : ∀ x ∈ ts, x.nodes ≤ 3000) (hl : ts.length ≤ 3000) (hN : (subsTs ts).length ≤ 100000) :
 Calls Tryz.prog 73 #[.int .i64 kd, .slice A ts.length c] w (fun e w' => RetNs w (namesF kd (subsTs ts)) e w') := by
 have hmm := @run_makeMap Tryz.prog
 have hA : Below w.heap.size w (((((w.alloc (.cells #[.int .i64 kd] 3)).alloc (.cells #[.slice none 0 0] 46)).alloc (.map #[] 0)).alloc (.cells #[.map (some (w.heap.size + 1 + 1))] 123)).alloc (.cells #[.slice A ts.length c] 30)) := Below.alloc (Below.alloc (Below.alloc (Below.alloc (Below.alloc (Below.refl _ _) (Nat.le_refl _) _) (by simp) _) (by simp <;> omega) _) (by simp <;> omega) _) (by simp <;> omega) _
 have hz : (((((w.alloc (.cells #[.int .i64 kd] 3)).alloc (.cells #[.slice none 0 0] 46)).alloc (.map #[] 0)).alloc (.cells #[.map (some (w.heap.size + 1 + 1))] 123)).alloc (.cells #[.slice A ts.length c] 30)).heap.size = w.heap.size + 5 := by simp
 have R0 : (((((w.alloc (.cells #[.int .i64 kd] 3)).alloc (.cells #[.slice none 0 0] 46)).alloc (.map #[] 0)).alloc (.cells #[.map (some (w.heap.size + 1 + 1))] 123)).alloc (.cells #[.slice A ts.length c] 30)).heap[w.heap.size]? = some (.cells #[.int .i64 kd] 3 (0, 0)) := (Below.heap_alloc _ _ _ (by simp <;> omega)).trans ((Below.heap_alloc _ _ _ (by simp <;> omega)).trans ((Below.heap_alloc _ _ _ (by simp <;> omega)).trans ((Below.heap_alloc _ _ _ (by simp <;> omega)).trans (heap_alloc_new w _))))
 have R1 : (((((w.alloc (.cells #[.int .i64 kd] 3)).alloc (.cells #[.slice none 0 0] 46)).alloc (.map #[] 0)).alloc (.cells #[.map (some (w.heap.size + 1 + 1))] 123)).alloc (.cells #[.slice A ts.length c] 30)).heap[w.heap.size + 1]? = some (.cells #[.slice none 0 0] 46 (0, 0)) := (Below.heap_alloc _ _ _ (by simp <;> omega)).trans ((Below.heap_alloc _ _ _ (by simp <;> omega)).trans ((Below.heap_alloc _ _ _ (by simp)).trans (heap_new_at (by simp))))
 have R3 : (((((w.alloc (.cells #[.int .i64 kd] 3)).alloc (.cells #[.slice none 0 0] 46)).alloc (.map #[] 0)).alloc (.cells #[.map (some (w.heap.size + 1 + 1))] 123)).alloc (.cells #[.slice A ts.length c] 30)).heap[w.heap.size + 1 + 1 + 1]? = some (.cells #[.map (some (w.heap.size + 1 + 1))] 123 (0, 0)) := (Below.heap_alloc _ _ _ (by simp <;> omega)).trans (heap_new_at (by simp))
 have R4 : (((((w.alloc (.cells #[.int .i64 kd] 3)).alloc (.cells #[.slice none 0 0] 46)).alloc (.map #[] 0)).alloc (.cells #[.map (some (w.heap.size + 1 + 1))] 123)).alloc (.cells #[.slice A ts.length c] 30)).heap[w.heap.size + 1 + 1 + 1 + 1]? = some (.cells #[.slice A ts.length c] 30 (0, 0)) := heap_new_at (by simp)
 have hm2 : (((((w.alloc (.cells #[.int .i64 kd] 3)).alloc (.cells #[.slice none 0 0] 46)).alloc (.map #[] 0)).alloc (.cells #[.map (some (w.heap.size + 1 + 1))] 123)).alloc (.cells #[.slice A ts.length c] 30)).ownsMap Tryz.prog 23 (plainElem (H := Unit) Tryz.prog 4) (w.heap.size + 1 + 1) 0 (.map []) := by
  have h := World.ownsMap_made ((w.alloc (.cells #[.int .i64 kd] 3)).alloc (.cells #[.slice none 0 0] 46)) Tryz.prog 23 (plainElem (H := Unit) Tryz.prog 4)
  simp only [World.size_alloc] at h
  exact (h.alloc _).alloc _
 have STP := subStops 2 (((((w.alloc (.cells #[.int .i64 kd] 3)).alloc (.cells #[.slice none 0 0] 46)).alloc (.map #[] 0)).alloc (.cells #[.map (some (w.heap.size + 1 + 1))] 123)).alloc (.cells #[.slice A ts.length c] 30)) S (fun k => k = w.heap.size + 1 ∨ k = w.heap.size + 1 + 1) (w.heap.size + 5) (fun b hb => ⟨by have := hS b hb; omega, fun h => by have := hS b hb; omega⟩) (by rw [hz]; omega) (fun b hb => by omega) ts A c (w.heap.size + 1 + 1 + 1 + 1) R4 ⟨by omega, fun h => by omega⟩ (ha.below hS hA) hsh hn hl
 have HA := hI hA
 have HZ := hI hz
 have HZ5 : Hid (w.heap.size + 5 ≤ (((((w.alloc (.cells #[.int .i64 kd] 3)).alloc (.cells #[.slice none 0 0] 46)).alloc (.map #[] 0)).alloc (.cells #[.map (some (w.heap.size + 1 + 1))] 123)).alloc (.cells #[.slice A ts.length c] 30)).heap.size) := Nat.le_of_eq hz.symm
 have HR0 := hI R0
 have HSS := hI hS
 have HR3 := hI R3
 have h0 : NmI kd w (((((w.alloc (.cells #[.int .i64 kd] 3)).alloc (.cells #[.slice none 0 0] 46)).alloc (.map #[] 0)).alloc (.cells #[.map (some (w.heap.size + 1 + 1))] 123)).alloc (.cells #[.slice A ts.length c] 30)) ([] : List (Spot (((((w.alloc (.cells #[.int .i64 kd] 3)).alloc (.cells #[.slice none 0 0] 46)).alloc (.map #[] 0)).alloc (.cells #[.map (some (w.heap.size + 1 + 1))] 123)).alloc (.cells #[.slice A ts.length c] 30)) S)) (((((w.alloc (.cells #[.int .i64 kd] 3)).alloc (.cells #[.slice none 0 0] 46)).alloc (.map #[] 0)).alloc (.cells #[.map (some (w.heap.size + 1 + 1))] 123)).alloc (.cells #[.slice A ts.length c] 30)) := ⟨_, _, R1, ⟨rfl, .inl ⟨rfl, rfl⟩⟩, hm2, Maps.isMap_empty, fun s _ _ => rfl, hA, KeepC.refl _⟩
 have H0 := hI h0
 clear hA hz R0 R1 R3 R4 hm2 hS ha hsh hn hl h0
 refine (callsIn_wide (n := 3)).1 ?_
 refine callsIn_of_wp_marks Tryz.func73 rfl trivial ?_
 simp only [Tryz.ntmps73, List.size_toArray, List.length_cons, List.length_nil, Nat.reduceAdd, Nat.reduceSub, Array.replicate_succ, Array.replicate_zero, List.push_toArray, List.append_toArray, List.nil_append, List.cons_append]
 gi_wp2_with (refine ⟨trivial, ?_⟩; gi_at_call 72; refine (callsIn_wide.2 (subtermsT _ _ _ _)).mono ?_; rintro e w' ⟨rfl, rfl⟩)
 generalize (((((w.alloc (.cells #[.int .i64 kd] 3)).alloc (.cells #[.slice none 0 0] 46)).alloc (.map #[] 0)).alloc (.cells #[.map (some (w.heap.size + 1 + 1))] 123)).alloc (.cells #[.slice A ts.length c] 30)) = Y at *
 refine wpIn_rangeFunc_ownG rfl (by decide) (gf := 100) (lb := #[.pointer (some ⟨w.heap.size + 1 + 1 + 1 + 1, 0, none⟩)]) rfl trivial (enters_of Tryz.func100 (by kernel_rfl) rfl)
  STP KeepC.trans (keepC_put (B := Y.heap.size) (by have := HZ.out; omega)) (Below.refl _ _) (fun _ => rfl)
  (fun pre W => NmI kd w Y pre W) (fun c pre W => False)
  ?hI (fun c s A B row hs _ _ => hs) H0.out
  (fun y => { tmps := #[.int .i64 kd, .slice A ts.length c, .pointer (some ⟨w.heap.size, 0, none⟩), undef, .slice none 0 0, .pointer (some ⟨w.heap.size + 1, 0, none⟩), .pointer (some ⟨w.heap.size + 1 + 1 + 1, 0, none⟩), .pointer (some ⟨y.1.1, y.1.2.1, none⟩), .map (some (w.heap.size + 1 + 1)), .slice A ts.length c, .func (.func 100) #[] #[.pointer (some ⟨w.heap.size + 1 + 1 + 1 + 1, 0, none⟩)], .pointer (some ⟨y.1.1, y.1.2.1, none⟩), undef, undef, undef, undef, undef, undef, undef, undef, undef, undef, undef, undef, undef, undef, undef, undef, undef, undef, undef, undef, undef, undef, undef, undef, undef, undef, undef, undef], defers := [] }) ?assign ?body ?odone ?stop
 case hI =>
  rintro pre X X' row ⟨sl, D, h1, h2, h3, h4, h5, h6, h7⟩ hg hr
  have hz := HZ.out
  refine ⟨sl, D, (hg.block _ (lt_row h1) (fun e => by have := (hr _ e.symm).1; omega)).trans h1, own_keep h2 (fun g hgb => hg.block g (own_lt h2 g hgb).2 (fun e => ?_)), h3.kept hg (fun e => by have := (hr _ e.symm).1; omega), h4, h5, h6.grown hg h6.size (fun k e => by have := (hr k e).1; omega), h7.trans ⟨hg.size, fun k o hk hm ho => ?_⟩⟩
  · obtain ⟨_, o, ho, hc⟩ := hr g e.symm
    rcases h2.2 with ⟨rfl, _⟩ | ⟨g', cap, cur, rfl, _, hh, _⟩
    · simp [Value.ownBlock] at hgb
    · have e' : g' = g := by simpa [Value.ownBlock] using hgb
      subst e'
      rw [hh] at ho
      cases ho
      cases hc
  · by_cases e : some k = row
    · obtain ⟨hb, o', ho', hc⟩ := hr k e.symm
      rw [hk] at ho'
      cases ho'
      rcases ho with ho | ho
      · omega
      · rw [keepO_cells ho] at hc; cases hc
    · exact (hg.block k (lt_row hk) e).trans hk
 case assign =>
  intro l y W K hK
  gi_wp2
  exact hK
 case body =>
  rintro l pre ⟨⟨b, k, u⟩, cs, hP, hsu⟩ W hI hlen
  have hI' := hI
  obtain ⟨sl, D, h1, h2, h3, h4, h5, h6, h7⟩ := hI
  have hPW : TmP W S u b k cs := hP.keep (fun _ h => h) fun q hq => h7.old (Nat.le_refl _) (by have := HSS.out q hq; have := HZ.out; omega) (fun e => by have := HSS.out q hq; omega)
  obtain ⟨z0, z1, z2, z3, z4, z5, z6, A2, c2, _, _, _, l0, l1, l2, l3, l4, l5, l6, l7, l8, l9, l10⟩ := hPW.cells
  have d0 := cell1 ((h7.old (Nat.le_refl _) (k := w.heap.size) (by have := HZ.out; omega) (fun e => by omega)).trans HR0.out)
  have d3 := cell1 ((h7.old (Nat.le_refl _) (k := w.heap.size + 1 + 1 + 1) (by have := HZ.out; omega) (fun e => by omega)).trans HR3.out)
  have HLB := hI (World.block_lt_of_cell? W _ l0)
  have HL0 := hI l0
  have HL1 := hI l1
  have HL2 := hI l2
  have HD0 := hI d0
  have HD3 := hI d3
  have HLD0 := hI (World.block_lt_of_cell? W _ d0)
  have HLD3 := hI (World.block_lt_of_cell? W _ d3)
  have HI := hI hI'
  have HH7 := hI h7
  clear l0 l1 l2 l3 l4 l5 l6 l7 l8 l9 l10 d0 d3
  cases hk : (u.kd == kd) with
  | false =>
   have HE : Hid (namesF kd ((pre ++ [(⟨(b, k, u), cs, hP, hsu⟩ : Spot Y S)]).map Spot.tm) = namesF kd (pre.map Spot.tm)) := (show _ = _ by
    rw [List.map_append, List.map_singleton, namesF_snoc]
    unfold addN
    rw [show (Spot.tm (⟨(b, k, u), cs, hP, hsu⟩ : Spot Y S)).kd = u.kd from rfl, hk]; rfl)
   have HK := hI hk
   clear h1 h2 h3 h4 h5 h6 h7 hI' hPW
   gi_wp2_with fail
   refine wpIn_region_grow (l := _) 14 (by kernel_rfl) (by kernel_rfl) (fun i => [12, 13, 14, 15, 16, 17, 18, 19, 20, 21, 22, 23, 24, 25].getD i 0) (LR [LV (.pointer (some ⟨b, k, none⟩)), LV (.pointer (some ⟨b, k, none⟩)), LV (.pointer (some ⟨b, k, none⟩)), LV (.int .i64 u.kd), LV (.int .i64 kd), LV (.bool false), LV (.bool false), LV undef, LV undef, LV undef, LV undef, LV undef, LV undef, LV undef]) (LR_mono ⟨mLV _, mLV _, mLV _, mLV _, mLV _, mLV _, mLV _, mLV _, mLV _, mLV _, mLV _, mLV _, mLV _, mLV _, trivial⟩) (by
    intro i j hi hj h
    exact inj_getD [12, 13, 14, 15, 16, 17, 18, 19, 20, 21, 22, 23, 24, 25] (by decide) i j hi hj h) (by
    intro i hi
    exact lt_getD 40 [12, 13, 14, 15, 16, 17, 18, 19, 20, 21, 22, 23, 24, 25] (by decide) i hi) ?step ?done
   case step =>
    intro ii hii a w9 v lo hi' hoth hb hw
    have sl7 : a.tmps[7]? = some (.pointer (some ⟨b, k, none⟩)) := (hoth 7 (fun j hj => ne_getD 7 _ (by decide) j hj)).trans rfl
    have sl2 : a.tmps[2]? = some (.pointer (some ⟨w.heap.size, 0, none⟩)) := (hoth 2 (fun j hj => ne_getD 2 _ (by decide) j hj)).trans rfl
    have sl6 : a.tmps[6]? = some (.pointer (some ⟨w.heap.size + 1 + 1 + 1, 0, none⟩)) := (hoth 6 (fun j hj => ne_getD 6 _ (by decide) j hj)).trans rfl
    have sl5 : a.tmps[5]? = some (.pointer (some ⟨w.heap.size + 1, 0, none⟩)) := (hoth 5 (fun j hj => ne_getD 5 _ (by decide) j hj)).trans rfl
    match ii, hii with
    | 0, _ =>
     refine wpOpIn_step rfl (by kernel_rfl) fun K' hK' => ?_
     rw [if_pos (wanted_plain rfl)]
     unfold Oper.wp
     simp only [execOp]
     go_simp
     exact hK' _ _ ⟨_, rfl, Below.refl _ _, rfl⟩
    | 1, _ =>
     obtain ⟨s0, r0, _⟩ := hw 0 (by omega) (by kernel_rfl)
     have e0 : v 0 = .pointer (some ⟨b, k, none⟩) := r0
     rw [e0] at s0
     replace s0 : a.tmps[12]? = some (.pointer (some ⟨b, k, none⟩)) := s0
     exact gwIn_nil rfl (wanted_plain rfl) 12 _ rfl s0 ⟨_, rfl, Below.refl _ _, rfl⟩
    | 2, _ =>
     obtain ⟨s0, r0, _⟩ := hw 1 (by omega) (by kernel_rfl)
     have e0 : v 1 = .pointer (some ⟨b, k, none⟩) := r0
     rw [e0] at s0
     replace s0 : a.tmps[13]? = some (.pointer (some ⟨b, k, none⟩)) := s0
     refine wpOpIn_step rfl (by kernel_rfl) fun K' hK' => ?_
     rw [if_pos (wanted_plain rfl)]
     unfold Oper.wp
     simp only [execOp]
     go_simp
     exact hK' _ _ ⟨_, rfl, Below.refl _ _, rfl⟩
    | 3, _ =>
     obtain ⟨s0, r0, _⟩ := hw 2 (by omega) (by kernel_rfl)
     have e0 : v 2 = .pointer (some ⟨b, k, none⟩) := r0
     rw [e0] at s0
     replace s0 : a.tmps[14]? = some (.pointer (some ⟨b, k, none⟩)) := s0
     have cc0 := (hb.cell (p := ⟨b, k, none⟩) HLB.out).trans HL0.out
     refine wpOpIn_step rfl (by kernel_rfl) fun K' hK' => ?_
     rw [if_pos (wanted_plain rfl)]
     unfold Oper.wp
     simp only [execOp]
     go_simp
     exact hK' _ _ ⟨_, rfl, Below.refl _ _, rfl⟩
    | 4, _ =>
     have cc3 := (hb.cell (p := ⟨w.heap.size, 0, none⟩) HLD0.out).trans HD0.out
     refine wpOpIn_step rfl (by kernel_rfl) fun K' hK' => ?_
     rw [if_pos (wanted_plain rfl)]
     unfold Oper.wp
     simp only [execOp]
     go_simp
     exact hK' _ _ ⟨_, rfl, Below.refl _ _, rfl⟩
    | 5, _ =>
     obtain ⟨s0, r0, _⟩ := hw 3 (by omega) (by kernel_rfl)
     have e0 : v 3 = .int .i64 u.kd := r0
     rw [e0] at s0
     replace s0 : a.tmps[15]? = some (.int .i64 u.kd) := s0
     obtain ⟨s1, r1, _⟩ := hw 4 (by omega) (by kernel_rfl)
     have e1 : v 4 = .int .i64 kd := r1
     rw [e1] at s1
     replace s1 : a.tmps[16]? = some (.int .i64 kd) := s1
     have hk2 := HK.out
     refine wpOpIn_step rfl (by kernel_rfl) fun K' hK' => ?_
     rw [if_pos (wanted_plain rfl)]
     unfold Oper.wp
     simp only [execOp]
     go_simp
     exact hK' _ _ ⟨_, rfl, Below.refl _ _, rfl⟩
    | 6, _ =>
     obtain ⟨s0, r0, _⟩ := hw 5 (by omega) (by kernel_rfl)
     have e0 : v 5 = .bool false := r0
     rw [e0] at s0
     replace s0 : a.tmps[17]? = some (.bool false) := s0
     refine wpOpIn_step rfl (by kernel_rfl) fun K' hK' => ?_
     rw [if_pos (wanted_plain rfl)]
     unfold Oper.wp
     simp only [execOp]
     go_simp
     exact hK' _ _ ⟨_, rfl, Below.refl _ _, rfl⟩
    | 7, _ =>
     obtain ⟨s9, r9, _⟩ := hw 6 (by omega) (by kernel_rfl)
     have e9 : v 6 = .bool false := r9
     rw [e9] at s9
     replace s9 : a.tmps[18]? = some (.bool false) := s9
     exact gwIn_skip rfl (by kernel_rfl) (wanted_off rfl rfl rfl s9 rfl) ⟨_, rfl, Below.refl _ _, rfl⟩
    | 8, _ =>
     obtain ⟨s9, r9, _⟩ := hw 6 (by omega) (by kernel_rfl)
     have e9 : v 6 = .bool false := r9
     rw [e9] at s9
     replace s9 : a.tmps[18]? = some (.bool false) := s9
     exact gwIn_skip rfl (by kernel_rfl) (wanted_off rfl rfl rfl s9 rfl) ⟨_, rfl, Below.refl _ _, rfl⟩
    | 9, _ =>
     obtain ⟨s9, r9, _⟩ := hw 6 (by omega) (by kernel_rfl)
     have e9 : v 6 = .bool false := r9
     rw [e9] at s9
     replace s9 : a.tmps[18]? = some (.bool false) := s9
     exact gwIn_skip rfl (by kernel_rfl) (wanted_off rfl rfl rfl s9 rfl) ⟨_, rfl, Below.refl _ _, rfl⟩
    | 10, _ =>
     obtain ⟨s9, r9, _⟩ := hw 6 (by omega) (by kernel_rfl)
     have e9 : v 6 = .bool false := r9
     rw [e9] at s9
     replace s9 : a.tmps[18]? = some (.bool false) := s9
     exact gwIn_skip rfl (by kernel_rfl) (wanted_off rfl rfl rfl s9 rfl) ⟨_, rfl, Below.refl _ _, rfl⟩
    | 11, _ =>
     obtain ⟨s9, r9, _⟩ := hw 6 (by omega) (by kernel_rfl)
     have e9 : v 6 = .bool false := r9
     rw [e9] at s9
     replace s9 : a.tmps[18]? = some (.bool false) := s9
     exact gwIn_skip rfl (by kernel_rfl) (wanted_off rfl rfl rfl s9 rfl) ⟨_, rfl, Below.refl _ _, rfl⟩
    | 12, _ =>
     obtain ⟨s9, r9, _⟩ := hw 6 (by omega) (by kernel_rfl)
     have e9 : v 6 = .bool false := r9
     rw [e9] at s9
     replace s9 : a.tmps[18]? = some (.bool false) := s9
     exact gwIn_skip rfl (by kernel_rfl) (wanted_off rfl rfl rfl s9 rfl) ⟨_, rfl, Below.refl _ _, rfl⟩
    | 13, _ =>
     obtain ⟨s9, r9, _⟩ := hw 6 (by omega) (by kernel_rfl)
     have e9 : v 6 = .bool false := r9
     rw [e9] at s9
     replace s9 : a.tmps[18]? = some (.bool false) := s9
     exact gwIn_skip rfl (by kernel_rfl) (wanted_off rfl rfl rfl s9 rfl) ⟨_, rfl, Below.refl _ _, rfl⟩
    | k + 14, h => exact absurd h (by omega)
   case done =>
    intro a w9 v lo hi' hdef hsz hoth hb hj hap
    obtain ⟨_, hv6, _, _⟩ := hj 6 (by omega)
    have ha := eq_puts hdef hsz hoth (fun i hi => (hj i hi).1)
    subst ha
    clear hj hoth hdef hsz hap
    change v 6 = _ at hv6
    simp only [puts, List.getD_cons_zero, List.getD_cons_succ, hv6]
    generalize v 0 = v0
    generalize v 1 = v1
    generalize v 2 = v2
    generalize v 3 = v3
    generalize v 4 = v4
    generalize v 5 = v5
    generalize v 7 = v7
    generalize v 8 = v8
    generalize v 9 = v9
    generalize v 10 = v10
    generalize v 11 = v11
    generalize v 12 = v12
    generalize v 13 = v13
    clear hv6
    simp only [Act.put, List.setIfInBounds_toArray, List.set_cons_zero, List.set_cons_succ]
    show wpListIn _ _ _ _ _ [_] _ _
    have HB9 := hI hb
    have HIX := hI (NmI.below HI.out hb HE.out (by simp))
    have HKF := hI (keepsFrom_below (B := Y.heap.size) hb)
    have HKC := hI (KeepC.of_below (B0 := w.heap.size + 5) (M := fun k => k = w.heap.size + 1 ∨ k = w.heap.size + 1 + 1) hb)
    clear hb
    gi_wp2
    exact ⟨HKF.out, HKC.out, HIX.out⟩
  | true =>
   obtain ⟨r, hr⟩ : ∃ r, ((namesF kd (pre.map Spot.tm)).any fun x => eqN x u.nm) = r := ⟨_, rfl⟩
   have HLK : Hid (∀ w9, Below W.heap.size W w9 → (Instr.lookup 123 (.map (some (w.heap.size + 1 + 1))) (.agg #[.string u.nm.1, .string u.nm.2]) false).run Tryz.prog w9 = .ok (.bool r) w9) := fun w9 h => by rw [← hr]; exact NmI.look HI.out u.nm hsu.1 hsu.2 w9 h
   have HK := hI hk
   have HR := hI hr
   clear h1 h2 h3 h4 h5 h6 h7 hI' hPW hr
   gi_wp2_with fail
   refine wpIn_region_grow (l := _) 14 (by kernel_rfl) (by kernel_rfl) (fun i => [12, 13, 14, 15, 16, 17, 18, 19, 20, 21, 22, 23, 24, 25].getD i 0) (LR [LV (.pointer (some ⟨b, k, none⟩)), LV (.pointer (some ⟨b, k, none⟩)), LV (.pointer (some ⟨b, k, none⟩)), LV (.int .i64 u.kd), LV (.int .i64 kd), LV (.bool true), LV (.bool true), LV (.map (some (w.heap.size + 1 + 1))), LV (.pointer (some ⟨b, k, none⟩)), LV (.pointer (some ⟨b, k, none⟩)), LV (.pointer (some ⟨b, k + 1, none⟩)), LV (.agg #[.string u.nm.1, .string u.nm.2]), LV (.bool r), LV (.bool (!r))]) (LR_mono ⟨mLV _, mLV _, mLV _, mLV _, mLV _, mLV _, mLV _, mLV _, mLV _, mLV _, mLV _, mLV _, mLV _, mLV _, trivial⟩) (by
    intro i j hi hj h
    exact inj_getD [12, 13, 14, 15, 16, 17, 18, 19, 20, 21, 22, 23, 24, 25] (by decide) i j hi hj h) (by
    intro i hi
    exact lt_getD 40 [12, 13, 14, 15, 16, 17, 18, 19, 20, 21, 22, 23, 24, 25] (by decide) i hi) ?step ?done
   case step =>
    intro ii hii a w9 v lo hi' hoth hb hw
    have sl7 : a.tmps[7]? = some (.pointer (some ⟨b, k, none⟩)) := (hoth 7 (fun j hj => ne_getD 7 _ (by decide) j hj)).trans rfl
    have sl2 : a.tmps[2]? = some (.pointer (some ⟨w.heap.size, 0, none⟩)) := (hoth 2 (fun j hj => ne_getD 2 _ (by decide) j hj)).trans rfl
    have sl6 : a.tmps[6]? = some (.pointer (some ⟨w.heap.size + 1 + 1 + 1, 0, none⟩)) := (hoth 6 (fun j hj => ne_getD 6 _ (by decide) j hj)).trans rfl
    have sl5 : a.tmps[5]? = some (.pointer (some ⟨w.heap.size + 1, 0, none⟩)) := (hoth 5 (fun j hj => ne_getD 5 _ (by decide) j hj)).trans rfl
    match ii, hii with
    | 0, _ =>
     refine wpOpIn_step rfl (by kernel_rfl) fun K' hK' => ?_
     rw [if_pos (wanted_plain rfl)]
     unfold Oper.wp
     simp only [execOp]
     go_simp
     exact hK' _ _ ⟨_, rfl, Below.refl _ _, rfl⟩
    | 1, _ =>
     obtain ⟨s0, r0, _⟩ := hw 0 (by omega) (by kernel_rfl)
     have e0 : v 0 = .pointer (some ⟨b, k, none⟩) := r0
     rw [e0] at s0
     replace s0 : a.tmps[12]? = some (.pointer (some ⟨b, k, none⟩)) := s0
     exact gwIn_nil rfl (wanted_plain rfl) 12 _ rfl s0 ⟨_, rfl, Below.refl _ _, rfl⟩
    | 2, _ =>
     obtain ⟨s0, r0, _⟩ := hw 1 (by omega) (by kernel_rfl)
     have e0 : v 1 = .pointer (some ⟨b, k, none⟩) := r0
     rw [e0] at s0
     replace s0 : a.tmps[13]? = some (.pointer (some ⟨b, k, none⟩)) := s0
     refine wpOpIn_step rfl (by kernel_rfl) fun K' hK' => ?_
     rw [if_pos (wanted_plain rfl)]
     unfold Oper.wp
     simp only [execOp]
     go_simp
     exact hK' _ _ ⟨_, rfl, Below.refl _ _, rfl⟩
    | 3, _ =>
     obtain ⟨s0, r0, _⟩ := hw 2 (by omega) (by kernel_rfl)
     have e0 : v 2 = .pointer (some ⟨b, k, none⟩) := r0
     rw [e0] at s0
     replace s0 : a.tmps[14]? = some (.pointer (some ⟨b, k, none⟩)) := s0
     have cc0 := (hb.cell (p := ⟨b, k, none⟩) HLB.out).trans HL0.out
     refine wpOpIn_step rfl (by kernel_rfl) fun K' hK' => ?_
     rw [if_pos (wanted_plain rfl)]
     unfold Oper.wp
     simp only [execOp]
     go_simp
     exact hK' _ _ ⟨_, rfl, Below.refl _ _, rfl⟩
    | 4, _ =>
     have cc3 := (hb.cell (p := ⟨w.heap.size, 0, none⟩) HLD0.out).trans HD0.out
     refine wpOpIn_step rfl (by kernel_rfl) fun K' hK' => ?_
     rw [if_pos (wanted_plain rfl)]
     unfold Oper.wp
     simp only [execOp]
     go_simp
     exact hK' _ _ ⟨_, rfl, Below.refl _ _, rfl⟩
    | 5, _ =>
     obtain ⟨s0, r0, _⟩ := hw 3 (by omega) (by kernel_rfl)
     have e0 : v 3 = .int .i64 u.kd := r0
     rw [e0] at s0
     replace s0 : a.tmps[15]? = some (.int .i64 u.kd) := s0
     obtain ⟨s1, r1, _⟩ := hw 4 (by omega) (by kernel_rfl)
     have e1 : v 4 = .int .i64 kd := r1
     rw [e1] at s1
     replace s1 : a.tmps[16]? = some (.int .i64 kd) := s1
     have hk2 := HK.out
     refine wpOpIn_step rfl (by kernel_rfl) fun K' hK' => ?_
     rw [if_pos (wanted_plain rfl)]
     unfold Oper.wp
     simp only [execOp]
     go_simp
     exact hK' _ _ ⟨_, rfl, Below.refl _ _, rfl⟩
    | 6, _ =>
     obtain ⟨s0, r0, _⟩ := hw 5 (by omega) (by kernel_rfl)
     have e0 : v 5 = .bool true := r0
     rw [e0] at s0
     replace s0 : a.tmps[17]? = some (.bool true) := s0
     refine wpOpIn_step rfl (by kernel_rfl) fun K' hK' => ?_
     rw [if_pos (wanted_plain rfl)]
     unfold Oper.wp
     simp only [execOp]
     go_simp
     exact hK' _ _ ⟨_, rfl, Below.refl _ _, rfl⟩
    | 7, _ =>
     obtain ⟨s9, r9, _⟩ := hw 6 (by omega) (by kernel_rfl)
     have e9 : v 6 = .bool true := r9
     rw [e9] at s9
     replace s9 : a.tmps[18]? = some (.bool true) := s9
     have cc4 := (hb.cell (p := ⟨w.heap.size + 1 + 1 + 1, 0, none⟩) HLD3.out).trans HD3.out
     refine wpOpIn_step rfl (by kernel_rfl) fun K' hK' => ?_
     rw [if_pos (wanted_on rfl rfl rfl s9 rfl)]
     unfold Oper.wp
     simp only [execOp]
     go_simp
     exact hK' _ _ ⟨_, rfl, Below.refl _ _, rfl⟩
    | 8, _ =>
     obtain ⟨s9, r9, _⟩ := hw 6 (by omega) (by kernel_rfl)
     have e9 : v 6 = .bool true := r9
     rw [e9] at s9
     replace s9 : a.tmps[18]? = some (.bool true) := s9
     refine wpOpIn_step rfl (by kernel_rfl) fun K' hK' => ?_
     rw [if_pos (wanted_on rfl rfl rfl s9 rfl)]
     unfold Oper.wp
     simp only [execOp]
     go_simp
     exact hK' _ _ ⟨_, rfl, Below.refl _ _, rfl⟩
    | 9, _ =>
     obtain ⟨s0, r0, _⟩ := hw 8 (by omega) (by kernel_rfl)
     have e0 : v 8 = .pointer (some ⟨b, k, none⟩) := r0
     rw [e0] at s0
     replace s0 : a.tmps[20]? = some (.pointer (some ⟨b, k, none⟩)) := s0
     obtain ⟨s9, r9, _⟩ := hw 6 (by omega) (by kernel_rfl)
     have e9 : v 6 = .bool true := r9
     rw [e9] at s9
     replace s9 : a.tmps[18]? = some (.bool true) := s9
     exact gwIn_nil rfl (wanted_on rfl rfl rfl s9 rfl) 20 _ rfl s0 ⟨_, rfl, Below.refl _ _, rfl⟩
    | 10, _ =>
     obtain ⟨s0, r0, _⟩ := hw 9 (by omega) (by kernel_rfl)
     have e0 : v 9 = .pointer (some ⟨b, k, none⟩) := r0
     rw [e0] at s0
     replace s0 : a.tmps[21]? = some (.pointer (some ⟨b, k, none⟩)) := s0
     obtain ⟨s9, r9, _⟩ := hw 6 (by omega) (by kernel_rfl)
     have e9 : v 6 = .bool true := r9
     rw [e9] at s9
     replace s9 : a.tmps[18]? = some (.bool true) := s9
     refine wpOpIn_step rfl (by kernel_rfl) fun K' hK' => ?_
     rw [if_pos (wanted_on rfl rfl rfl s9 rfl)]
     unfold Oper.wp
     simp only [execOp]
     go_simp
     exact hK' _ _ ⟨_, rfl, Below.refl _ _, rfl⟩
    | 11, _ =>
     obtain ⟨s0, r0, _⟩ := hw 10 (by omega) (by kernel_rfl)
     have e0 : v 10 = .pointer (some ⟨b, k + 1, none⟩) := r0
     rw [e0] at s0
     replace s0 : a.tmps[22]? = some (.pointer (some ⟨b, k + 1, none⟩)) := s0
     obtain ⟨s9, r9, _⟩ := hw 6 (by omega) (by kernel_rfl)
     have e9 : v 6 = .bool true := r9
     rw [e9] at s9
     replace s9 : a.tmps[18]? = some (.bool true) := s9
     have cc1 := (hb.cell (p := ⟨b, k + 1, none⟩) HLB.out).trans HL1.out
     have cc2 := (hb.cell (p := ⟨b, k + 2, none⟩) HLB.out).trans HL2.out
     refine wpOpIn_step rfl (by kernel_rfl) fun K' hK' => ?_
     rw [if_pos (wanted_on rfl rfl rfl s9 rfl)]
     unfold Oper.wp
     simp only [execOp]
     go_simp
     exact hK' _ _ ⟨_, rfl, Below.refl _ _, rfl⟩
    | 12, _ =>
     obtain ⟨s0, r0, _⟩ := hw 7 (by omega) (by kernel_rfl)
     have e0 : v 7 = .map (some (w.heap.size + 1 + 1)) := r0
     rw [e0] at s0
     replace s0 : a.tmps[19]? = some (.map (some (w.heap.size + 1 + 1))) := s0
     obtain ⟨s1, r1, _⟩ := hw 11 (by omega) (by kernel_rfl)
     have e1 : v 11 = .agg #[.string u.nm.1, .string u.nm.2] := r1
     rw [e1] at s1
     replace s1 : a.tmps[23]? = some (.agg #[.string u.nm.1, .string u.nm.2]) := s1
     obtain ⟨s9, r9, _⟩ := hw 6 (by omega) (by kernel_rfl)
     have e9 : v 6 = .bool true := r9
     rw [e9] at s9
     replace s9 : a.tmps[18]? = some (.bool true) := s9
     have hlk := HLK.out w9 hb
     refine wpOpIn_step rfl (by kernel_rfl) fun K' hK' => ?_
     rw [if_pos (wanted_on rfl rfl rfl s9 rfl)]
     unfold Oper.wp
     simp only [execOp]
     go_simp
     exact hK' _ _ ⟨_, rfl, Below.refl _ _, rfl⟩
    | 13, _ =>
     obtain ⟨s0, r0, _⟩ := hw 12 (by omega) (by kernel_rfl)
     have e0 : v 12 = .bool r := r0
     rw [e0] at s0
     replace s0 : a.tmps[24]? = some (.bool r) := s0
     obtain ⟨s9, r9, _⟩ := hw 6 (by omega) (by kernel_rfl)
     have e9 : v 6 = .bool true := r9
     rw [e9] at s9
     replace s9 : a.tmps[18]? = some (.bool true) := s9
     refine wpOpIn_step rfl (by kernel_rfl) fun K' hK' => ?_
     rw [if_pos (wanted_on rfl rfl rfl s9 rfl)]
     unfold Oper.wp
     simp only [execOp]
     go_simp
     exact hK' _ _ ⟨_, rfl, Below.refl _ _, rfl⟩
    | k + 14, h => exact absurd h (by omega)
   case done =>
    intro a w9 v lo hi' hdef hsz hoth hb hj hap
    obtain ⟨_, hv6, _, _⟩ := hj 6 (by omega)
    obtain ⟨_, hv13, _, _⟩ := hj 13 (by omega)
    have ha := eq_puts hdef hsz hoth (fun i hi => (hj i hi).1)
    subst ha
    clear hj hoth hdef hsz hap
    change v 6 = _ at hv6
    change v 13 = _ at hv13
    simp only [puts, List.getD_cons_zero, List.getD_cons_succ, hv6, hv13]
    generalize v 0 = v0
    generalize v 1 = v1
    generalize v 2 = v2
    generalize v 3 = v3
    generalize v 4 = v4
    generalize v 5 = v5
    generalize v 7 = v7
    generalize v 8 = v8
    generalize v 9 = v9
    generalize v 10 = v10
    generalize v 11 = v11
    generalize v 12 = v12
    clear hv6 hv13
    simp only [Act.put, List.setIfInBounds_toArray, List.set_cons_zero, List.set_cons_succ]
    show wpListIn _ _ _ _ _ [_] _ _
    have HB9 := hI hb
    have HI9 := hI (NmI.below (pre' := pre) HI.out hb rfl (Nat.le_refl _))
    have HL0' := hI ((hb.cell (p := ⟨b, k, none⟩) HLB.out).trans HL0.out)
    have HL1' := hI ((hb.cell (p := ⟨b, k + 1, none⟩) HLB.out).trans HL1.out)
    have HL2' := hI ((hb.cell (p := ⟨b, k + 2, none⟩) HLB.out).trans HL2.out)
    have HD3' := hI ((hb.cell (p := ⟨w.heap.size + 1 + 1 + 1, 0, none⟩) HLD3.out).trans HD3.out)
    have HLB' := hI (Nat.lt_of_lt_of_le HLB.out hb.size)
    have HLD3' := hI (Nat.lt_of_lt_of_le HLD3.out hb.size)
    have HKF := hI (keepsFrom_below (B := Y.heap.size) hb)
    have HKC := hI (KeepC.of_below (B0 := w.heap.size + 5) (M := fun k => k = w.heap.size + 1 ∨ k = w.heap.size + 1 + 1) hb)
    clear hb HL0 HL1 HL2 HD3 HLB HLD3 HI HB9 HLK HD0 HLD0 HL0'
    have HL1 := HL1'
    clear HL1'
    have HL2 := HL2'
    clear HL2'
    have HD3 := HD3'
    clear HD3'
    have HLB := HLB'
    clear HLB'
    have HLD3 := HLD3'
    clear HLD3'
    generalize w9 = V at *
    cases r with
    | true =>
     have HE : Hid (namesF kd ((pre ++ [(⟨(b, k, u), cs, hP, hsu⟩ : Spot Y S)]).map Spot.tm) = namesF kd (pre.map Spot.tm)) := (show _ = _ by
      rw [List.map_append, List.map_singleton, namesF_snoc]
      unfold addN
      rw [show (Spot.tm (⟨(b, k, u), cs, hP, hsu⟩ : Spot Y S)).kd = u.kd from rfl, show (Spot.tm (⟨(b, k, u), cs, hP, hsu⟩ : Spot Y S)).nm = u.nm from rfl, hk, HR.out]; rfl)
     have HIX := hI (NmI.below HI9.out (Below.refl _ _) HE.out (by simp))
     gi_wp2
     exact ⟨HKF.out, HKC.out, HIX.out⟩
    | false =>
     gi_wp2_with fail
     refine wpIn_region_grow (l := _) 5 (by kernel_rfl) (by kernel_rfl) (fun i => [27, 28, 29, 30, 31].getD i 0) (LR [LV (.map (some (w.heap.size + 1 + 1))), LV (.pointer (some ⟨b, k, none⟩)), LV (.pointer (some ⟨b, k, none⟩)), LV (.pointer (some ⟨b, k + 1, none⟩)), LV (.agg #[.string u.nm.1, .string u.nm.2])]) (LR_mono ⟨mLV _, mLV _, mLV _, mLV _, mLV _, trivial⟩) (by
      intro i j hi hj h
      exact inj_getD [27, 28, 29, 30, 31] (by decide) i j hi hj h) (by
      intro i hi
      exact lt_getD 40 [27, 28, 29, 30, 31] (by decide) i hi) ?step ?done
     case step =>
      intro ii hii a w9 v lo hi' hoth hb hw
      have sl7 : a.tmps[7]? = some (.pointer (some ⟨b, k, none⟩)) := (hoth 7 (fun j hj => ne_getD 7 _ (by decide) j hj)).trans rfl
      have sl2 : a.tmps[2]? = some (.pointer (some ⟨w.heap.size, 0, none⟩)) := (hoth 2 (fun j hj => ne_getD 2 _ (by decide) j hj)).trans rfl
      have sl6 : a.tmps[6]? = some (.pointer (some ⟨w.heap.size + 1 + 1 + 1, 0, none⟩)) := (hoth 6 (fun j hj => ne_getD 6 _ (by decide) j hj)).trans rfl
      have sl5 : a.tmps[5]? = some (.pointer (some ⟨w.heap.size + 1, 0, none⟩)) := (hoth 5 (fun j hj => ne_getD 5 _ (by decide) j hj)).trans rfl
      match ii, hii with
      | 0, _ =>
       have cc4 := (hb.cell (p := ⟨w.heap.size + 1 + 1 + 1, 0, none⟩) HLD3.out).trans HD3.out
       refine wpOpIn_step rfl (by kernel_rfl) fun K' hK' => ?_
       rw [if_pos (wanted_plain rfl)]
       unfold Oper.wp
       simp only [execOp]
       go_simp
       exact hK' _ _ ⟨_, rfl, Below.refl _ _, rfl⟩
      | 1, _ =>
       refine wpOpIn_step rfl (by kernel_rfl) fun K' hK' => ?_
       rw [if_pos (wanted_plain rfl)]
       unfold Oper.wp
       simp only [execOp]
       go_simp
       exact hK' _ _ ⟨_, rfl, Below.refl _ _, rfl⟩
      | 2, _ =>
       obtain ⟨s0, r0, _⟩ := hw 1 (by omega) (by kernel_rfl)
       have e0 : v 1 = .pointer (some ⟨b, k, none⟩) := r0
       rw [e0] at s0
       replace s0 : a.tmps[28]? = some (.pointer (some ⟨b, k, none⟩)) := s0
       exact gwIn_nil rfl (wanted_plain rfl) 28 _ rfl s0 ⟨_, rfl, Below.refl _ _, rfl⟩
      | 3, _ =>
       obtain ⟨s0, r0, _⟩ := hw 2 (by omega) (by kernel_rfl)
       have e0 : v 2 = .pointer (some ⟨b, k, none⟩) := r0
       rw [e0] at s0
       replace s0 : a.tmps[29]? = some (.pointer (some ⟨b, k, none⟩)) := s0
       refine wpOpIn_step rfl (by kernel_rfl) fun K' hK' => ?_
       rw [if_pos (wanted_plain rfl)]
       unfold Oper.wp
       simp only [execOp]
       go_simp
       exact hK' _ _ ⟨_, rfl, Below.refl _ _, rfl⟩
      | 4, _ =>
       obtain ⟨s0, r0, _⟩ := hw 3 (by omega) (by kernel_rfl)
       have e0 : v 3 = .pointer (some ⟨b, k + 1, none⟩) := r0
       rw [e0] at s0
       replace s0 : a.tmps[30]? = some (.pointer (some ⟨b, k + 1, none⟩)) := s0
       have cc1 := (hb.cell (p := ⟨b, k + 1, none⟩) HLB.out).trans HL1.out
       have cc2 := (hb.cell (p := ⟨b, k + 2, none⟩) HLB.out).trans HL2.out
       refine wpOpIn_step rfl (by kernel_rfl) fun K' hK' => ?_
       rw [if_pos (wanted_plain rfl)]
       unfold Oper.wp
       simp only [execOp]
       go_simp
       exact hK' _ _ ⟨_, rfl, Below.refl _ _, rfl⟩
     case done =>
      intro a w9 v lo hi' hdef hsz hoth hb hj hap
      obtain ⟨_, hv0, _, _⟩ := hj 0 (by omega)
      obtain ⟨_, hv4, _, _⟩ := hj 4 (by omega)
      have ha := eq_puts hdef hsz hoth (fun i hi => (hj i hi).1)
      subst ha
      clear hj hoth hdef hsz hap
      change v 0 = _ at hv0
      change v 4 = _ at hv4
      simp only [puts, List.getD_cons_zero, List.getD_cons_succ, hv0, hv4]
      generalize v 1 = v1
      generalize v 2 = v2
      generalize v 3 = v3
      clear hv0 hv4
      simp only [Act.put, List.setIfInBounds_toArray, List.set_cons_zero, List.set_cons_succ]
      show wpListIn _ _ _ _ _ [_] _ _
      have HI6 := hI (NmI.below (pre' := pre) HI9.out hb rfl (Nat.le_refl _))
      have HL1' := hI ((hb.cell (p := ⟨b, k + 1, none⟩) HLB.out).trans HL1.out)
      have HL2' := hI ((hb.cell (p := ⟨b, k + 2, none⟩) HLB.out).trans HL2.out)
      have HLB' := hI (Nat.lt_of_lt_of_le HLB.out hb.size)
      have HKF' := hI (HKF.out.trans (keepsFrom_below (B := Y.heap.size) hb))
      have HKC' := hI (HKC.out.trans (KeepC.of_below (B0 := w.heap.size + 5) (M := fun k => k = w.heap.size + 1 ∨ k = w.heap.size + 1 + 1) hb))
      clear hb HL1 HL2 HD3 HLB HLD3 HI9 HKF HKC
      have HL1 := HL1'
      clear HL1'
      have HL2 := HL2'
      clear HL2'
      have HLB := HLB'
      clear HLB'
      have HKF := HKF'
      clear HKF'
      have HKC := HKC'
      clear HKC'
      generalize w9 = V6 at *
      obtain ⟨sl, D, h1, h2, h3, h4, h5, h6, h7⟩ := HI6.out
      have H1 := hI h1
      have H2 := hI h2
      have H4 := hI h4
      have H5 := hI h5
      have H6 := hI h6
      have H7 := hI h7
      have HM := hI h3
      have HKY := hI (keySym u.nm.1 u.nm.2 hsu.1 hsu.2)
      have hbl : b < w.heap.size := HSS.out b hP.1.1
      have HBL := hI hbl
      have HS1 := hI h1
      have H6S := hI h6.size
      have HLN : Hid (pre.length < maxLen) := (show _ < _ by unfold maxLen; omega)
      clear h1 h2 h3 h4 h5 h6 h7 hbl
      gi_wp2_with (gi_at_mapUpdate; refine wpListIn_mapUpdate_own _ rfl _ _ _ 123 rfl 23 4 symKey Tryz.underlying123 (plainElem (H := Unit) Tryz.prog 4) (w.heap.size + 1 + 1) pre.length D rfl HM.out HLN.out _ _ (symL u.nm.1 u.nm.2) rfl rfl HKY.out (.lit (.bool true)) [] plain_bool ?_; intro w1 hm1 hg1)
      have HLSC := hI (cell1 ((hg1.block _ (lt_row HS1.out) (fun e => by injection e with e; omega)).trans HS1.out))
      have HLS := hI (Nat.lt_of_lt_of_le (lt_row HS1.out) hg1.size)
      have hbk : w1.heap[b]? = V6.heap[b]? := hg1.block b HLB.out (fun e => by injection e with e; have := HBL.out; omega)
      have HL1' := hI ((World.cell?_of_block (a := ⟨b, k + 1, none⟩) hbk).trans HL1.out)
      have HL2' := hI ((World.cell?_of_block (a := ⟨b, k + 2, none⟩) hbk).trans HL2.out)
      have HLB' := hI (Nat.lt_of_lt_of_le HLB.out hg1.size)
      have HG1 := hI hg1
      have HM1 := hI hm1
      clear hg1 hm1 hbk HL1 HL2 HLB HM HKY HLN
      have HL1 := HL1'
      clear HL1'
      have HL2 := HL2'
      clear HL2'
      have HLB := HLB'
      clear HLB'
      gi_wp2_with fail
      refine wpIn_region_grow (l := _) 6 (by kernel_rfl) (by kernel_rfl) (fun i => [32, 33, 34, 35, 36, 37].getD i 0) (LR [LV (sl), LV (.pointer (some ⟨b, k, none⟩)), LV (.pointer (some ⟨b, k, none⟩)), LV (.pointer (some ⟨b, k + 1, none⟩)), LV (.agg #[.string u.nm.1, .string u.nm.2]), LBN u.nm]) (LR_mono ⟨mLV _, mLV _, mLV _, mLV _, mLV _, mLBN _, trivial⟩) (by
       intro i j hi hj h
       exact inj_getD [32, 33, 34, 35, 36, 37] (by decide) i j hi hj h) (by
       intro i hi
       exact lt_getD 40 [32, 33, 34, 35, 36, 37] (by decide) i hi) ?step ?done
      case step =>
       intro ii hii a w9 v lo hi' hoth hb hw
       have sl7 : a.tmps[7]? = some (.pointer (some ⟨b, k, none⟩)) := (hoth 7 (fun j hj => ne_getD 7 _ (by decide) j hj)).trans rfl
       have sl2 : a.tmps[2]? = some (.pointer (some ⟨w.heap.size, 0, none⟩)) := (hoth 2 (fun j hj => ne_getD 2 _ (by decide) j hj)).trans rfl
       have sl6 : a.tmps[6]? = some (.pointer (some ⟨w.heap.size + 1 + 1 + 1, 0, none⟩)) := (hoth 6 (fun j hj => ne_getD 6 _ (by decide) j hj)).trans rfl
       have sl5 : a.tmps[5]? = some (.pointer (some ⟨w.heap.size + 1, 0, none⟩)) := (hoth 5 (fun j hj => ne_getD 5 _ (by decide) j hj)).trans rfl
       match ii, hii with
       | 0, _ =>
        have cc5 := (hb.cell (p := ⟨w.heap.size + 1, 0, none⟩) HLS.out).trans HLSC.out
        refine wpOpIn_step rfl (by kernel_rfl) fun K' hK' => ?_
        rw [if_pos (wanted_plain rfl)]
        unfold Oper.wp
        simp only [execOp]
        go_simp
        exact hK' _ _ ⟨_, rfl, Below.refl _ _, rfl⟩
       | 1, _ =>
        refine wpOpIn_step rfl (by kernel_rfl) fun K' hK' => ?_
        rw [if_pos (wanted_plain rfl)]
        unfold Oper.wp
        simp only [execOp]
        go_simp
        exact hK' _ _ ⟨_, rfl, Below.refl _ _, rfl⟩
       | 2, _ =>
        obtain ⟨s0, r0, _⟩ := hw 1 (by omega) (by kernel_rfl)
        have e0 : v 1 = .pointer (some ⟨b, k, none⟩) := r0
        rw [e0] at s0
        replace s0 : a.tmps[33]? = some (.pointer (some ⟨b, k, none⟩)) := s0
        exact gwIn_nil rfl (wanted_plain rfl) 33 _ rfl s0 ⟨_, rfl, Below.refl _ _, rfl⟩
       | 3, _ =>
        obtain ⟨s0, r0, _⟩ := hw 2 (by omega) (by kernel_rfl)
        have e0 : v 2 = .pointer (some ⟨b, k, none⟩) := r0
        rw [e0] at s0
        replace s0 : a.tmps[34]? = some (.pointer (some ⟨b, k, none⟩)) := s0
        refine wpOpIn_step rfl (by kernel_rfl) fun K' hK' => ?_
        rw [if_pos (wanted_plain rfl)]
        unfold Oper.wp
        simp only [execOp]
        go_simp
        exact hK' _ _ ⟨_, rfl, Below.refl _ _, rfl⟩
       | 4, _ =>
        obtain ⟨s0, r0, _⟩ := hw 3 (by omega) (by kernel_rfl)
        have e0 : v 3 = .pointer (some ⟨b, k + 1, none⟩) := r0
        rw [e0] at s0
        replace s0 : a.tmps[35]? = some (.pointer (some ⟨b, k + 1, none⟩)) := s0
        have cc1 := (hb.cell (p := ⟨b, k + 1, none⟩) HLB.out).trans HL1.out
        have cc2 := (hb.cell (p := ⟨b, k + 2, none⟩) HLB.out).trans HL2.out
        refine wpOpIn_step rfl (by kernel_rfl) fun K' hK' => ?_
        rw [if_pos (wanted_plain rfl)]
        unfold Oper.wp
        simp only [execOp]
        go_simp
        exact hK' _ _ ⟨_, rfl, Below.refl _ _, rfl⟩
       | 5, _ =>
        obtain ⟨s0, r0, _⟩ := hw 4 (by omega) (by kernel_rfl)
        have e0 : v 4 = .agg #[.string u.nm.1, .string u.nm.2] := r0
        rw [e0] at s0
        replace s0 : a.tmps[36]? = some (.agg #[.string u.nm.1, .string u.nm.2]) := s0
        refine wpOpIn_step rfl (by kernel_rfl) fun K' hK' => ?_
        rw [if_pos (wanted_plain rfl)]
        unfold Oper.wp
        simp only [execOp]
        go_simp
        exact hK' _ _ ⟨_, rfl, below_alT _ _, rfl, heap_alloc_new _ _, by simp⟩
      case done =>
       intro a w9 v lo hi' hdef hsz hoth hb hj hap
       obtain ⟨_, hv0, _, _⟩ := hj 0 (by omega)
       obtain ⟨_, ⟨hv5, hrow5, hlt5⟩, hlo5, hhi5⟩ := hj 5 (by omega)
       have ha := eq_puts hdef hsz hoth (fun i hi => (hj i hi).1)
       subst ha
       clear hj hoth hdef hsz hap
       change v 0 = _ at hv0
       simp only [puts, List.getD_cons_zero, List.getD_cons_succ, hv0, hv5]
       generalize v 1 = v1
       generalize v 2 = v2
       generalize v 3 = v3
       generalize v 4 = v4
       clear hv0 hv5
       simp only [Act.put, List.setIfInBounds_toArray, List.set_cons_zero, List.set_cons_succ]
       show wpListIn _ _ _ _ _ [_, _] _ _
       have HNC : Hid (∀ j u2, ([.string u.nm.1, .string u.nm.2] : List Value)[j]? = some u2 → w9.cell? ((⟨lo 5, 0, none⟩ : Addr).add j) = some u2) := fun j u2 hj => row_add hrow5 j u2 (by simpa using hj)
       have HB2 := hI hb
       obtain ⟨i0, hi0, hz0, hz1, hz2⟩ := infoN
       have HI0 := hI hi0
       have HZ0 := hI hz0
       have HZ1 := hI hz1
       have HZ2 := hI hz2
       have h1 := H1.out
       have h2 := H2.out
       have h4 := H4.out
       have h5 := H5.out
       have h6 := H6.out
       have h7 := H7.out
       have hYV := h7.size
       have g1s := HG1.out.size
       have b2s := hb.size
       have hown : w9.ownsRow Y.heap.size 23 2 sl (namesF kd (pre.map Spot.tm)).length (flatN (namesF kd (pre.map Spot.tm))) := own_keep h2 fun g hg => (hb.block g (by have := (own_lt h2 g hg).2; omega)).trans (HG1.out.block g (own_lt h2 g hg).2 (fun e => by injection e with e; have := (own_lt h2 g hg).1; have := HZ.out; omega))
       have hln : (namesF kd (pre.map Spot.tm)).length ≤ pre.length := by have := namesF_len kd (pre.map Spot.tm); simpa using this
       refine wpListIn_append_own_at _ rfl (.tmp 32) (.tmp 37) _ rfl Y.heap.size 23 i0 _ 2 32 Tryz.underlying46 HI0.out HZ0.out HZ1.out HZ2.out rfl (by omega) sl (namesF kd (pre.map Spot.tm)).length (flatN (namesF kd (pre.map Spot.tm))) rfl hown ⟨lo 5, 0, none⟩ 1 1 [.string u.nm.1, .string u.nm.2] rfl rfl HNC.out (by simp [Value.oneCell']) (by unfold maxLen; omega) (by omega) (by omega) ?_
       intro v' w4 hr4 hg4 _ _
       obtain ⟨g', cap', rfl⟩ : ∃ g' cap', v' = .slice (some ⟨g', 0, none⟩) ((namesF kd (pre.map Spot.tm)).length + 1) cap' := by
        rcases hr4.2 with ⟨_, e0⟩ | ⟨g', cap, cur, e0, _⟩
        · exact absurd e0 (by omega)
        · exact ⟨g', cap, e0⟩
       obtain ⟨nn, hnn⟩ : ∃ nn, (namesF kd (pre.map Spot.tm)).length + 1 = nn := ⟨_, rfl⟩
       have HGG := hI (NmI.grow (x := (⟨(b, k, u), cs, hP, hsu⟩ : Spot Y S)) HZ5.out h1 h2 h4 h5 h6 h7 hsu hk HR.out HM1.out HG1.out hb hr4 hg4)
       rw [hnn] at HGG ⊢
       have hbx : w4.heap[w.heap.size + 1]? = some (.cells #[sl] 46 (0, 0)) := (hg4.block _ (by have := HZ.out; omega) (fun e => by have := (own_lt h2 _ e.symm).1; have := HZ.out; omega)).trans ((hb.block _ (by have := HZ.out; omega)).trans ((HG1.out.block _ (by have := HZ.out; omega) (fun e => by injection e with e; omega)).trans h1))
       have HBX := hI hbx
       clear hbx hr4 hg4 hown h1 h2 h4 h5 h6 h7 hi0 hz0 hz1 hz2
       have e5 := cell1 HBX.out
       have f5 : w4.frozen? ⟨w.heap.size + 1, 0, none⟩ = false := by simp [World.frozen?, HBX.out]
       gi_wp2
       exact ⟨HKF.out.trans HGG.out.1, HKC.out.trans HGG.out.2.1, HGG.out.2.2⟩
 case odone =>
  rintro D xs W hD hxs ⟨sl, DD, h1, h2, h3, h4, h5, h6, h7⟩ hK
  have d5 := cell1 h1
  have hz := HZ.out
  have HN : Hid (NsV (W.putObj D (.deferred none)) (Upto w (W.putObj D (.deferred none)) NoB) (namesF kd (subsTs ts)) sl) := by
   rw [← hxs]
   refine NsV.keep ?_ ?_ (nsV_own h2)
   · rintro b ⟨hb1, hb2, _⟩
     exact .inr ⟨by omega, by simpa using hb2⟩
   · rintro b ⟨hb1, hb2, cur, hb3⟩
     exact World.putObj_heap_other (fun e => by rw [e, hK] at hb3; cases hb3)
  have HBB := hI (h6.trans (below_put (W := W) (l := D) (n := w.heap.size) (.deferred none) (by omega)))
  have HK2 := hI hK
  clear h1 h2 h3 h4 h5 h6 h7 hxs hK hz hD
  gi_wp2
  refine ⟨by simp, .inl ⟨_, _, rfl, run_takeDeferred HK2.out, ?_⟩⟩
  refine ⟨sl, ?_, ⟨sl, rfl, HN.out, HBB.out⟩⟩
  simp [results, Tryz.f73, go_sem]
 case stop =>
  rintro D c pre W _ _ h _
  exact h.elim
theorem variablesT (ts : List Tm) (A : Option Addr) (c : Nat) (w : World) (S : Nat → Prop) (hS : In S w) (ha : ArgsAt w S ts A c) (hsh : ∀ u ∈ subsTs ts, NmOk u) (hn : ∀ x ∈ ts, x.nodes ≤ 3000) (hl : ts.length ≤ 3000) (hN : (subsTs ts).length ≤ 100000) :
 Calls Tryz.prog 29 #[.slice A ts.length c] w (RetNs w (namesF 1 (subsTs ts))) := by
 have H := hI (namesT 1 ts A c w S hS ha hsh hn hl hN)
 generalize namesF 1 (subsTs ts) = L at *
 clear hS ha hsh hn hl hN
 generalize ts.length = n at *
 go_enter Tryz.func29, Tryz.ntmps29
 go_wp2_with fail
 refine H.out.mono ?_
 rintro e w1 ⟨v, rfl, h1, h2⟩
 have HR : Hid (RetNs w L (.returned v) w1) := ⟨v, rfl, h1, h2⟩
 clear h1 h2
 go_wp2
 go_ret
 exact HR.out

def addM (acc : List Nm) (s : Nm) : List Nm := if (acc.any fun x => eqN x s) = true then acc else acc ++ [s]
structure BlkB (B : Nat) (w w' : World) : Prop where
 size : w.heap.size ≤ w'.heap.size
 block : ∀ k, k < B → w'.heap[k]? = w.heap[k]?
theorem BlkB.of {B : Nat} {w w1 w' : World} (h : Below B w w1) (hk : ∀ b, b < B → w'.heap[b]? = w1.heap[b]?) (hs : w'.heap.size = w1.heap.size) : BlkB B w w' := ⟨by have := h.size; omega, fun k hb => (hk k hb).trans (h.block k hb)⟩
theorem BlkB.cell {B : Nat} {w w' : World} {p : Addr} (h : BlkB B w w') (hp : p.block < B) : w'.cell? p = w.cell? p := World.cell?_of_block (h.block _ hp)
def stT (lo : Nat → Nat) (kb : Nat → Nat) (ps : Nat → List Value) (s : Nat) : Nat × Array Value := (lo (kb s), (ps s).toArray)
structure StOkT (w0 : World) (n : Nat) (kb kv : Nat → Nat) (ops : Array Oper) (listed : Array Bool) (t : Nat) (v : Nat → Value) (lo : Nat → Nat) (ps : Nat → List Value) (w1 : World) : Prop where
 box : ∀ s, s < t → v (kb s) = .pointer (some ⟨lo (kb s), 0, none⟩) ∧ TB w1 (lo (kb s)) zT
 val : ∀ s, s < t → v (kv s) = vTm (ps s) ∧ One11 (ps s)
 wt : ∀ s, s < t → ∀ i, i < n → Region.waitsFor .any ops (n + s) i = true → listed.getD i true = true

section
variable {Q : Exit → Act → World → Prop}
theorem wp_region_growMT {id : Nat} {a0 : Act} {w0 : World} {l : List Oper} (n m : Nat) (hm : Tryz.prog.follows .mixedOrders = true) (hB : invB .any l.toArray (n + m) = true)
 (d : Nat → Nat) (R : Nat → Value → Nat → Nat → World → Prop) (hR : ∀ i x l m w w', R i x l m w → m ≤ w.heap.size → Below w.heap.size w w' → R i x l m w')
 (hd : ∀ i j, i < n → j < n → d i = d j → i = j) (hds : ∀ i, i < n → d i < a0.tmps.size)
 (late : List Nat) (hlate : ((List.range n).all fun i => late.contains i || Region.waitsFor .any l.toArray n i) = true)
 (kb kv : Nat → Nat) (hkb : ∀ s, s < m → kb s < n) (hkv : ∀ s, s < m → kv s < n) (hinj : ∀ s t, s < m → t < m → kb s = kb t → s = t)
 (hw0 : ((List.range m).all fun s => Region.waitsFor .any l.toArray (n + s) (kb s) && Region.waitsFor .any l.toArray (n + s) (kv s) && (List.range s).all fun r => Region.waitsFor .any l.toArray (n + s) (n + r)) = true)
 (hos : ∀ s, s < m → ∃ os, l[n + s]? = some os ∧ os.guard = none ∧ os.dst = none ∧ os.op = .store 35 (.tmp (d (kb s))) (.tmp (d (kv s))))
 (hRb : ∀ s, s < m → ∀ v lo hi w, R (kb s) v lo hi w → LTx v lo hi w) (hRv : ∀ s, s < m → ∀ v lo hi w, R (kv s) v lo hi w → ∃ p, v = vTm p ∧ One11 p)
 (step : ∀ i, i < n → ∀ (a : Act) (w : World) (v : Nat → Value) (lo hi : Nat → Nat), (∀ s, (∀ j, j < n → d j ≠ s) → a.tmps[s]? = a0.tmps[s]?) → Below w0.heap.size w0 w →
   (∀ j, j < n → Region.waitsFor .any l.toArray i j = true → a.tmps[d j]? = some (v j) ∧ R j (v j) (lo j) (hi j) w ∧ w0.heap.size ≤ lo j ∧ hi j ≤ w.heap.size) →
   wpOp Tryz.prog l.toArray Q i (fun a' w' => ∃ x, a' = a.put (some (d i)) x ∧ Below w.heap.size w w' ∧ R i x w.heap.size w'.heap.size w') a w)
 (stepL : ∀ i, i < n → late.contains i = true → ∀ (a : Act) (w1 w : World) (v : Nat → Value) (lo hi : Nat → Nat), (∀ s, (∀ j, j < n → d j ≠ s) → a.tmps[s]? = a0.tmps[s]?) → Below w0.heap.size w0 w1 →
   (∀ b, b < w0.heap.size → w.heap[b]? = w1.heap[b]?) → w.heap.size = w1.heap.size →
   (∀ j, j < n → Region.waitsFor .any l.toArray i j = true → a.tmps[d j]? = some (v j) ∧ R j (v j) (lo j) (hi j) w1) →
   wpOp Tryz.prog l.toArray Q i (fun a' w' => ∃ x w1', a' = a.put (some (d i)) x ∧ ((w1' = w1 ∧ w' = w) ∨ (∃ o, w1' = w1.alloc o ∧ w' = w.alloc o)) ∧ R i x w1.heap.size w1'.heap.size w1') a w)
 (done : ∀ (a : Act) (w : World) (v : Nat → Value) (lo hi : Nat → Nat) (ps : Nat → List Value), a.defers = a0.defers → a.tmps.size = a0.tmps.size → (∀ s, (∀ j, j < n → d j ≠ s) → a.tmps[s]? = a0.tmps[s]?) → Below w0.heap.size w0 w →
   (∀ j, j < n → a.tmps[d j]? = some (v j) ∧ R j (v j) (lo j) (hi j) w ∧ w0.heap.size ≤ lo j ∧ hi j ≤ w.heap.size) → (∀ i j, i < n → j < n → i ≠ j → hi i ≤ lo j ∨ hi j ≤ lo i) →
   (∀ s, s < m → v (kb s) = .pointer (some ⟨lo (kb s), 0, none⟩) ∧ TB w (lo (kb s)) zT) → (∀ s, s < m → v (kv s) = vTm (ps s) ∧ One11 (ps s)) →
   wpList Tryz.prog l.toArray Q (l.drop (n + m)) a (stW (stT lo kb ps) w m)) :
 (Code.region id l.toArray true).wp Tryz.prog Q a0 w0 := by
 have hn : n + m < l.length := by
  simp only [invB, Bool.and_eq_true, decide_eq_true_eq] at hB
  simpa using hB.1.1.1.1
 have hwait : ∀ i, i < n → late.contains i = false → Region.waitsFor .any l.toArray n i = true := fun i hi hl => by
  have h1 := List.all_eq_true.1 hlate i (List.mem_range.2 hi)
  rw [hl] at h1
  simpa using h1
 have hws : ∀ s, s < m → (Region.waitsFor .any l.toArray (n + s) (kb s) = true ∧ Region.waitsFor .any l.toArray (n + s) (kv s) = true) ∧ ∀ r, r < s → Region.waitsFor .any l.toArray (n + s) (n + r) = true := fun s hs => by
  have h1 := List.all_eq_true.1 hw0 s (List.mem_range.2 hs)
  rw [Bool.and_eq_true, Bool.and_eq_true] at h1
  exact ⟨h1.1, fun r hr => List.all_eq_true.1 h1.2 r (List.mem_range.2 hr)⟩
 refine wp_region_inv (n + m) hm hB (fun listed a w => listed.size = l.length ∧ ∃ t, t ≤ m ∧ (∀ s, s < m → listed.getD (n + s) true = decide (s < t)) ∧
  ∃ v lo hi w1 ps, Grow n d R a0 w0 listed a w1 v lo hi ∧ StOkT w0 n kb kv l.toArray listed t v lo ps w1 ∧ w = stW (stT lo kb ps) w1 t) ?_ ?_ ?_
 · have hf : ∀ i, i < l.length → (Array.replicate l.length false).getD i true = false := fun i hlt => by simp [hlt]
   refine ⟨by simp, 0, Nat.zero_le _, fun s hs => by rw [hf _ (by omega)]; rfl, fun _ => undef, fun _ => 0, fun _ => 0, w0.drew, fun _ => [], ⟨rfl, rfl, fun _ _ => rfl, (Below.refl _ _).drew, fun i hi hl => ?_, fun i j hi hj _ hl => ?_⟩, ⟨fun s hs => absurd hs (Nat.not_lt_zero _), fun s hs => absurd hs (Nat.not_lt_zero _), fun s hs => absurd hs (Nat.not_lt_zero _)⟩, rfl⟩
   · rw [hf i (by omega)] at hl; cases hl
   · rw [hf i (by omega)] at hl; cases hl
 · rintro listed a w i hi hr ⟨hsz, t, htm, hst, v, lo, hi', w1, ps, hG, hS, rfl⟩
   obtain ⟨hun, oi, hoi, hall⟩ := mem_ready.1 hr
   have hwl : ∀ j, j < l.length → Region.waitsFor .any l.toArray i j = true → listed.getD j true = true := fun j hj hw => by
    obtain ⟨oj, hoj, e, he, hbn, hon⟩ := Region.waitsFor_spec hw
    have : oj = oi := Option.some.inj (hoj.symm.trans hoi)
    subst this
    have hlj := hall e he hbn
    rw [hon] at hlj
    have hjl : j < listed.size := by omega
    simp [hjl] at hlj ⊢
    exact hlj
   have hgrow : ∀ k, listed.getD k true = true → (listed.setIfInBounds i true).getD k true = true := fun k hk => by
    by_cases e : i = k
    · subst e; exact set_getD
    · rw [Go.getD_set_ne true e]; exact hk
   have hltF : ∀ s, s < t → (stT lo kb ps s).1 < w1.heap.size ∧ w0.heap.size ≤ (stT lo kb ps s).1 := fun s hs => by
    have hb := (hS.box s hs).2
    have hl := hS.wt s hs (kb s) (hkb s (by omega)) (hws s (by omega)).1.1
    exact ⟨hb.lt, (hG.slot (kb s) (hkb s (by omega)) hl).2.2.1⟩
   by_cases hin : i < n
   · have hstl : ∀ s, s < m → (listed.setIfInBounds i true).getD (n + s) true = decide (s < t) := fun s hs => by
      rw [Go.getD_set_ne true (by omega)]; exact hst s hs
     have hwt' : ∀ s, s < t → ∀ j, j < n → Region.waitsFor .any l.toArray (n + s) j = true → (listed.setIfInBounds i true).getD j true = true := fun s hs j hj hw => hgrow j (hS.wt s hs j hj hw)
     have hneb : ∀ s, s < t → kb s ≠ i := fun s hs e => by
      have := hS.wt s hs (kb s) (hkb s (by omega)) (hws s (by omega)).1.1
      rw [e, hun] at this; cases this
     have hnev : ∀ s, s < t → kv s ≠ i := fun s hs e => by
      have := hS.wt s hs (kv s) (hkv s (by omega)) (hws s (by omega)).1.2
      rw [e, hun] at this; cases this
     by_cases ht0 : t = 0
     · subst ht0
       refine wpOp_mono ?_ (step i hin a w1 v lo hi' hG.other hG.below (fun j hj hw => ?_))
       · rintro a' w' ⟨x, rfl, hb, hx⟩
         exact ⟨by simpa using hsz, 0, Nat.zero_le _, hstl, _, _, _, w', ps, hG.step hR hd hds hin (by omega) hun hb hx, ⟨fun s hs => absurd hs (Nat.not_lt_zero _), fun s hs => absurd hs (Nat.not_lt_zero _), fun s hs => absurd hs (Nat.not_lt_zero _)⟩, rfl⟩
       · obtain ⟨h1, h2, h3, h4, h5⟩ := hG.slot j hj (hwl j (by omega) hw)
         exact ⟨h1, h2, h3, h5⟩
     · have hcl : late.contains i = true := by
        cases hc : late.contains i with
        | true => rfl
        | false =>
         have := hS.wt 0 (by omega) i hin (hwait i hin hc)
         rw [hun] at this; cases this
       refine wpOp_mono ?_ (stepL i hin hcl a w1 (stW (stT lo kb ps) w1 t) v lo hi' hG.other hG.below (fun b hb => stW_other _ _ _ _ (fun s hs => by have := (hltF s hs).2; omega)) (stW_size _ _ _) (fun j hj hw => ?_))
       · rintro a' w' ⟨x, w1', rfl, hor, hx⟩
         have hb1 : Below w1.heap.size w1 w1' := by
          rcases hor with ⟨rfl, _⟩ | ⟨o, rfl, _⟩
          · exact Below.refl _ _
          · exact Below.alloc (Below.refl _ _) (Nat.le_refl _) _
         refine ⟨by simpa using hsz, t, htm, hstl, _, _, _, w1', ps, hG.step hR hd hds hin (by omega) hun hb1 hx, ⟨fun s hs => ?_, fun s hs => ?_, hwt'⟩, ?_⟩
         · have h1 := hS.box s hs
           simp only [if_neg (hneb s hs)]
           exact ⟨h1.1, h1.2.keep hb1⟩
         · have h1 := hS.val s hs
           simp only [if_neg (hnev s hs)]
           exact h1
         · have hc : ∀ w, stW (stT (fun j => if j = i then w1.heap.size else lo j) kb ps) w t = stW (stT lo kb ps) w t := fun w => stW_congr w t fun s hs => by
            unfold stT
            simp only [if_neg (hneb s hs)]
           rw [hc]
           rcases hor with ⟨rfl, rfl⟩ | ⟨o, rfl, rfl⟩
           · rfl
           · exact (stW_alloc _ _ _ _ (fun s hs => (hltF s hs).1)).symm
       · obtain ⟨h1, h2, _, _, _⟩ := hG.slot j hj (hwl j (by omega) hw)
         exact ⟨h1, h2⟩
   · obtain ⟨s, rfl⟩ : ∃ s, i = n + s := ⟨i - n, by omega⟩
     have hsm : s < m := by omega
     have hts : ¬ s < t := fun h => by
      have := hst s hsm
      rw [hun, decide_eq_true h] at this; cases this
     have hst2 : s = t := by
      rcases Nat.lt_or_ge t s with h | h
      · have h1 := hwl (n + t) (by omega) ((hws s hsm).2 t h)
        rw [hst t (by omega)] at h1
        have := of_decide_eq_true h1
        omega
      · omega
     subst hst2
     have hlb := hwl (kb s) (by have := hkb s hsm; omega) (hws s hsm).1.1
     have hlv := hwl (kv s) (by have := hkv s hsm; omega) (hws s hsm).1.2
     obtain ⟨sb, rb, gb, _, _⟩ := hG.slot (kb s) (hkb s hsm) hlb
     obtain ⟨sv, rv, _, _, _⟩ := hG.slot (kv s) (hkv s hsm) hlv
     obtain ⟨eb, bb, lb⟩ := hRb s hsm _ _ _ _ rb
     obtain ⟨p, ev, hp⟩ := hRv s hsm _ _ _ _ rv
     obtain ⟨os, ho1, ho2, ho3, ho4⟩ := hos s hsm
     have hap : ∀ r, r < s → (stT lo kb ps r).1 ≠ lo (kb s) := fun r hr e => by
      have hlr := hS.wt r hr (kb r) (hkb r (by omega)) (hws r (by omega)).1.1
      obtain ⟨_, rr, _, _, _⟩ := hG.slot (kb r) (hkb r (by omega)) hlr
      obtain ⟨_, _, lr⟩ := hRb r (by omega) _ _ _ _ rr
      have hne : kb r ≠ kb s := fun e => by have := hinj r s (by omega) hsm e; omega
      have e' : lo (kb r) = lo (kb s) := e
      rcases hG.apart (kb r) (kb s) (hkb r (by omega)) (hkb s hsm) hne hlr hlb with h | h <;> omega
     have bb2 : TB (stW (stT lo kb ps) w1 s) (lo (kb s)) zT := (stW_other _ _ _ _ hap).trans bb
     have hosl : l.toArray[n + s]? = some os := by simpa using ho1
     refine wpOp_step hosl fun K' hK' => ?_
     rw [if_pos (wanted_plain ho2)]
     refine wp_store_row 35 _ _ ho4 (lo (kb s)) p.toArray ((eval_of sb).trans eb) ((eval_of sv).trans ev) _ _ bb2 (by rw [List.size_toArray, hp.1]; kernel_rfl) (by rw [List.size_toArray, List.size_toArray, hp.1]; rfl) ?one ?_
     case one =>
      rw [Array.all_eq_true_iff_forall_mem]
      exact fun u hu => hp.2 u (by simpa using hu)
     have hset : ∀ j, j < n → (listed.setIfInBounds (n + s) true).getD j true = listed.getD j true := fun j hj => Go.getD_set_ne true (by omega)
     refine hK' _ _ ⟨by simpa using hsz, s + 1, by omega, fun r hr => ?_, v, lo, hi', w1, fun r => if r = s then p else ps r, ?_, ⟨fun r hr => ?_, fun r hr => ?_, fun r hr j hj hw => ?_⟩, ?_⟩
     · by_cases e : r = s
       · subst e; rw [set_getD, decide_eq_true (by omega)]
       · rw [Go.getD_set_ne true (by omega), hst r hr]
         by_cases h2 : r < s
         · rw [decide_eq_true h2, decide_eq_true (by omega)]
         · rw [decide_eq_false h2, decide_eq_false (by omega)]
     · rw [ho3]
       exact ⟨hG.defers, hG.size, hG.other, hG.below, fun j hj hl => hG.slot j hj (by rw [← hset j hj]; exact hl), fun j k hj hk hne hl hl2 => hG.apart j k hj hk hne (by rw [← hset j hj]; exact hl) (by rw [← hset k hk]; exact hl2)⟩
     · by_cases e : r = s
       · subst e; exact ⟨eb, bb⟩
       · exact hS.box r (by omega)
     · by_cases e : r = s
       · subst e; simp only [if_true]; exact ⟨ev, hp⟩
       · simp only [if_neg e]; exact hS.val r (by omega)
     · by_cases e : r = s
       · subst e; exact hgrow j (hwl j (by omega) hw)
       · exact hgrow j (hS.wt r (by omega) j hj hw)
     · show (stW (stT lo kb ps) w1 s).setRow _ _ = (stW (stT lo kb fun r => if r = s then p else ps r) w1 s).setRow _ _
       rw [stW_congr (f := stT lo kb ps) (f' := stT lo kb fun r => if r = s then p else ps r) w1 s (fun r hr => by unfold stT; simp only [if_neg (show ¬ r = s by omega)])]
       unfold stT
       simp only [if_true]
 · rintro a w ⟨hsz, t, htm, hst, v, lo, hi', w1, ps, hG, hS, rfl⟩
   have hfull : ∀ i, i < n + m → (fullHead (n + m) (l.length - (n + m))).getD i true = true := fun i hi => by
    have hlt : i < (fullHead (n + m) (l.length - (n + m))).size := by simp [fullHead]; omega
    simp [fullHead, hi, List.getElem?_append]
   have htm2 : t = m := by
    rcases Nat.lt_or_ge t m with h | h
    · have h1 := hst t h
      rw [hfull (n + t) (by omega)] at h1
      have := of_decide_eq_true h1.symm
      omega
    · omega
   subst htm2
   exact done a w1 v lo hi' ps hG.defers hG.size hG.other hG.below (fun j hj => by
    obtain ⟨h1, h2, h3, h4, h5⟩ := hG.slot j hj (hfull j (by omega))
    exact ⟨h1, h2, h3, h5⟩) (fun i j hi hj hne => hG.apart i j hi hj hne (hfull i (by omega)) (hfull j (by omega))) hS.box hS.val
end
def RetXP (w : World) (m : Nat) (P : Ob → Prop) (e : Ending) (w' : World) : Prop := ∃ o p, e = .returned (vO o p) ∧ Pair w' (Upto w w' NoB) o p ∧ Below w.heap.size w w' ∧ OkO m o ∧ P o
def OMk (PO : Rw → Ob → Prop) : Prop := ∀ (r : Rw) (cs : List Value) (w : World) (S : Nat → Prop), In S w → RawAt w S r cs → r.ok → Tab w → Calls Tryz.prog 16 #[.agg cs.toArray] w (RetXP w (4 * r.cnt - 1) (PO r))
theorem oMkT : OMk fun _ _ => True := fun r cs w S hS h hok ht => (objectO r cs w S hS h hok ht).mono fun e w' ⟨o, p, h1, h2, h3, h4⟩ => ⟨o, p, h1, h2, h3, h4, trivial⟩
def RetTP (w : World) (P : Tm → Prop) (e : Ending) (w' : World) : Prop := ∃ t, RetT w NoB t e w' ∧ P t
theorem OkO.le {m m' : Nat} {o : Ob} (h : OkO m o) (hm : m ≤ m') : OkO m' o := ⟨h.bd, Nat.le_trans h.nodes hm, h.tx⟩
structure MdW (w W : World) (raw : Array Value) : Prop where
 bel : Below w.heap.size w W
 b0 : W.heap[w.heap.size]? = some (.cells raw 26 (0, 0))
 b1 : TB W (w.heap.size + 1) zT
theorem MdW.below {w W W' : World} {raw : Array Value} (h : MdW w W raw) (hb : Below W.heap.size W W') : MdW w W' raw := by
 have h1 := h.b1.lt
 exact ⟨h.bel.trans (hb.mono (by omega)), (hb.block _ (by omega)).trans h.b0, h.b1.keep hb⟩
theorem MdW.cell {w W : World} {raw : Array Value} (h : MdW w W raw) (i : Nat) : W.cell? ⟨w.heap.size, i, none⟩ = raw[i]? := cell_of_row _ _ _ _ _ _ h.b0
theorem MdW.new (w : World) (raw : Array Value) : MdW w ((w.alloc (.cells raw 26)).alloc (.cells #[.int .i64 0, .string ⟨#[]⟩, .string ⟨#[]⟩, .int .i64 0, .string ⟨#[]⟩, .string ⟨#[]⟩, .string ⟨#[]⟩, .string ⟨#[]⟩, .string ⟨#[]⟩, .slice none 0 0, .slice none 0 0] 35)) raw :=
 ⟨Below.alloc (Below.alloc (Below.refl _ _) (Nat.le_refl _) _) (by simp) _, heap_alloc2_old w _ _, heap_new_at (by simp)⟩
theorem madeVar (PO : Rw → Ob → Prop) (k n : Int) (s : ByteArray) (l : List Rw) (A : Option Addr) (c : Nat) (w : World) (hq : k % 5 < 2) (hk : I64 k) (hn : I64 n) :
 Calls Tryz.prog 15 #[.agg #[.int .i64 k, .int .i64 n, .string s, .slice A l.length c]] w (RetTP w (mtP PO (.mk k n s l))) := by
 have HK := hI hk
 have HN := hI hn
 have HQ := hI hq
 have HP : Hid (mtP PO (.mk k n s l) (.var (vAt n))) := by
  show mtP PO (.mk k n s l) (.var (vAt n))
  unfold mtP; rw [if_pos hq]
 clear hk hn hq
 go_enter Tryz.func15, Tryz.ntmps15
 go_wp2_with fail
 have M := MdW.new w #[.int .i64 k, .int .i64 n, .string s, .slice A l.length c]
 refine (modO k 5 _ HK.out.1 HK.out.2 (by decide) (by decide)).mono ?_
 rintro e w1 ⟨rfl, rfl⟩
 generalize ((w.alloc (.cells #[.int .i64 k, .int .i64 n, .string s, .slice A l.length c] 26)).alloc (.cells #[.int .i64 0, .string ⟨#[]⟩, .string ⟨#[]⟩, .int .i64 0, .string ⟨#[]⟩, .string ⟨#[]⟩, .string ⟨#[]⟩, .string ⟨#[]⟩, .string ⟨#[]⟩, .slice none 0 0, .slice none 0 0] 35)) = W at M ⊢
 have hq := HQ.out
 have q0 := Int.emod_nonneg k (show (5 : Int) ≠ 0 by decide)
 clear HQ
 generalize k % 5 = q at hq q0 ⊢
 go_wp2_with fail
 refine (varsT 4 (by decide) W).mono ?_
 rintro e w2 ⟨v, rfl, hv, hb2⟩
 have HM := hI (M.below hb2)
 have HV : Hid (NsV w2 (fun b => w.heap.size ≤ b ∧ b < w2.heap.size) vN4 v) := hv.more fun b hb => by
  rcases hb with h | ⟨h1, h2⟩
  · exact h.elim
  · exact ⟨Nat.le_trans M.bel.size h1, h2⟩
 clear M hv hb2
 have d1 : w2.cell? ⟨w.heap.size, 1, none⟩ = some (.int .i64 n) := HM.out.cell 1
 have CM := hI (modO n 4 w2 HN.out.1 HN.out.2 (by decide) (by decide))
 have j0 := Int.emod_nonneg n (show (4 : Int) ≠ 0 by decide)
 have j1 := Int.emod_lt_of_pos n (show (0 : Int) < 4 by decide)
 obtain ⟨i, hi⟩ : ∃ i : Nat, n % 4 = i := ⟨(n % 4).toNat, by omega⟩
 have hvA : vAt n = vN4.getD i (uN ⟨#[120]⟩) := by unfold vAt; rw [hi]; rfl
 rw [hvA] at HP
 rw [hi] at CM j0 j1
 obtain ⟨Av, cv, rfl, hlc, hr⟩ := HV.out
 obtain ⟨bv, ov, rfl, hbv, hcell⟩ := hr (by decide)
 have hi4 : i < vN4.length := by show i < 4; omega
 obtain ⟨c0, c1⟩ := hcell i hi4
 have hgd : vN4.getD i (uN ⟨#[120]⟩) = vN4[i] := by rw [List.getD_eq_getElem?_getD, List.getElem?_eq_getElem hi4]; rfl
 rw [hgd] at HP
 have hi4' : i < 4 := hi4
 have hlc' : 4 ≤ cv := hlc
 change Hid (mtP PO _ (.var vN4[i])) at HP
 have VR := hI (varR vN4[i] w2 NoB)
 generalize vN4[i] = x at *
 have hlen : vN4.length = 4 := rfl
 rw [hlen]
 clear hlen hgd hi4 hcell hlc hr hvA hi HV
 go_wp2_with fail
 refine CM.out.mono ?_
 rintro e w3 ⟨rfl, rfl⟩
 go_wp2_with fail
 refine VR.out.mono ?_
 rintro e w4 ⟨cs, rfl, h4, hb4⟩
 have HB := hI (HM.out.below hb4)
 have O1 := hI h4.o11
 have HB1 := hI HB.out.b1
 have H4 : Hid (TmAt w4 (Upto w w4 NoB) (.var x) cs) := h4.more fun b hb => up3 HM.out.bel (Below.refl _ _) b hb
 clear h4 hb4 c0 c1 d1 VR CM
 go_wp2_with ((with_reducible refine storeTb (cs := cs) (.tmp 2) (.tmp 20) ?_ ?_ ?_ ?_ HB1.out ?_ ?_ ?_ ?_); rfl; rfl; rfl; rfl; rfl; exact O1.out.1; exact O1.out.2)
 exact retTb rfl rfl (HB1.out.set _) O1.out.1 ⟨_, ⟨_, rfl, TmAt.boxed H4.out HB1.out.nb _, below_setRowO HB.out.bel (by omega) _⟩, HP.out⟩
theorem madeCon (PO : Rw → Ob → Prop) (hPO : OMk PO) (k n : Int) (s : ByteArray) (l : List Rw) (A : Option Addr) (c : Nat) (w : World) (S : Nat → Prop) (hS : In S w) (hR : RawAt w S (.mk k n s l) [.int .i64 k, .int .i64 n, .string s, .slice A l.length c]) (hok : (Rw.mk k n s l).ok) (ht : Tab w) (hq : k % 5 = 2) (hk : I64 k) (hn : I64 n) :
 Calls Tryz.prog 15 #[.agg #[.int .i64 k, .int .i64 n, .string s, .slice A l.length c]] w (RetTP w (mtP PO (.mk k n s l))) := by
 have HK := hI hk
 have HN := hI hn
 have HQ := hI hq
 have HP : Hid (∀ o, PO (.mk n n s l) o → OkO (4 * (1 + Rw.cnts l)) o → mtP PO (.mk k n s l) (.con o)) := fun o h h' => by
  unfold mtP; rw [if_neg (by omega), if_pos hq]; exact ⟨o, rfl, h, h'⟩
 have CO : Hid (∀ W, Below w.heap.size w W → Calls Tryz.prog 16 #[.agg #[.int .i64 n, .int .i64 n, .string s, .slice A l.length c]] W (RetXP W (4 * (1 + Rw.cnts l) - 1) (PO (.mk n n s l)))) := fun W hb => by
  have h1 := hR.below hS hb
  have h2 : RawAt W S (.mk n n s l) [.int .i64 n, .int .i64 n, .string s, .slice A l.length c] := by
   unfold RawAt at h1 ⊢
   obtain ⟨A', c', e, _, h⟩ := h1
   refine ⟨A', c', ?_, hn, h⟩
   simp only [List.cons.injEq, and_true, true_and] at e ⊢
   exact e
  have h3 := hPO (.mk n n s l) _ W S (hS.later hb.size) h2 (by unfold Rw.ok at hok ⊢; exact hok) (ht.below hb)
  have e : (Rw.mk n n s l).cnt = 1 + Rw.cnts l := by unfold Rw.cnt; rfl
  rw [e] at h3
  exact h3
 clear hk hn hq hR hok ht hS hPO
 go_enter Tryz.func15, Tryz.ntmps15
 go_wp2_with fail
 have M := MdW.new w #[.int .i64 k, .int .i64 n, .string s, .slice A l.length c]
 refine (modO k 5 _ HK.out.1 HK.out.2 (by decide) (by decide)).mono ?_
 rintro e w1 ⟨rfl, rfl⟩
 generalize ((w.alloc (.cells #[.int .i64 k, .int .i64 n, .string s, .slice A l.length c] 26)).alloc (.cells #[.int .i64 0, .string ⟨#[]⟩, .string ⟨#[]⟩, .int .i64 0, .string ⟨#[]⟩, .string ⟨#[]⟩, .string ⟨#[]⟩, .string ⟨#[]⟩, .string ⟨#[]⟩, .slice none 0 0, .slice none 0 0] 35)) = W at M ⊢
 have hq := HQ.out
 have q0 := Int.emod_nonneg k (show (5 : Int) ≠ 0 by decide)
 clear HQ
 generalize k % 5 = q at hq q0 ⊢
 go_wp2_with fail
 refine (varsT 4 (by decide) W).mono ?_
 rintro e w2 ⟨v, rfl, hv, hb2⟩
 have HM := hI (M.below hb2)
 have HV : Hid (NsV w2 (fun b => w.heap.size ≤ b ∧ b < w2.heap.size) vN4 v) := hv.more fun b hb => by
  rcases hb with h | ⟨h1, h2⟩
  · exact h.elim
  · exact ⟨Nat.le_trans M.bel.size h1, h2⟩
 clear M hv hb2
 subst hq
 have d1 : w2.cell? ⟨w.heap.size, 1, none⟩ = some (.int .i64 n) := HM.out.cell 1
 have d2 : w2.cell? ⟨w.heap.size, 2, none⟩ = some (.string s) := HM.out.cell 2
 have d3 : w2.cell? ⟨w.heap.size, 3, none⟩ = some (.slice A l.length c) := HM.out.cell 3
 have CO2 := hI (CO.out w2 HM.out.bel)
 clear HV CO q0
 go_wp2_with fail
 refine CO2.out.mono ?_
 rintro e w3 ⟨o, p, rfl, hp, hb3, hok, hpo⟩
 have HB3 := hI (HM.out.below hb3)
 have CC := hI (conR o p w3 (Upto w2 w3 NoB) (fun b hb => upto_lt (NoB.in w2) hb3.size b hb) hp)
 have HPo := hI (HP.out o hpo (hok.le (by omega)))
 have HS3 := hI hb3
 unfold vO at CC ⊢
 obtain ⟨x0, x1, x2, x3, x4, x5, ea⟩ := cells7 o p
 rw [ea] at CC ⊢
 clear hok hpo hp d1 d2 d3 CO2 HP hb3 ea
 go_wp2_with fail
 refine CC.out.mono ?_
 rintro e w4 ⟨cs, rfl, h4, hb4⟩
 have HB := hI (HB3.out.below hb4)
 have O1 := hI h4.o11
 have HB1 := hI HB.out.b1
 have H4 : Hid (TmAt w4 (Upto w w4 NoB) (.con o) cs) := h4.more fun b hb => up3 HM.out.bel (Below.refl _ _) b (upto_two HS3.out.size hb4.size b hb)
 clear h4 hb4 CC
 go_wp2_with ((with_reducible refine storeTb (cs := cs) (.tmp 2) (.tmp 33) ?_ ?_ ?_ ?_ HB1.out ?_ ?_ ?_ ?_); rfl; rfl; rfl; rfl; rfl; exact O1.out.1; exact O1.out.2)
 exact retTb rfl rfl (HB1.out.set _) O1.out.1 ⟨_, ⟨_, rfl, TmAt.boxed H4.out HB1.out.nb _, below_setRowO HB.out.bel (by omega) _⟩, HPo.out⟩
def MtL (PO : Rw → Ob → Prop) (Y wr : World) (l : List Rw) (i : Nat) (v : Value) : Prop := ∃ ts xs, MkT NoB Y wr ts v xs ∧ ts.length = i ∧ mtsP PO l ts
theorem madeApp (PO : Rw → Ob → Prop) (k n : Int) (s : ByteArray) (l : List Rw) (A : Option Addr) (c : Nat) (w : World) (S : Nat → Prop) (hS : In S w) (hc : l.length ≤ c) (hL : l.length ≤ 6) (hA : 0 < l.length → ∃ b o, A = some ⟨b, o, none⟩ ∧ S b ∧ RawsAt w S b o l) (ht : Tab w) (hq : ¬ k % 5 < 2) (hq2 : k % 5 ≠ 2) (hk : I64 k) (hn : I64 n)
 (KI : ∀ i (hi : i < l.length), ∀ w cs, In S w → RawAt w S l[i] cs → Tab w → Calls Tryz.prog 15 #[.agg cs.toArray] w (RetTP w (mtP PO l[i]))) :
 Calls Tryz.prog 15 #[.agg #[.int .i64 k, .int .i64 n, .string s, .slice A l.length c]] w (RetTP w (mtP PO (.mk k n s l))) := by
 have HK := hI hk
 have HN := hI hn
 have HP : Hid (∀ ts, ts.length = min 3 l.length → mtsP PO l ts → mtP PO (.mk k n s l) (.app (fAt n) ts)) := fun ts h h' => by
  unfold mtP; rw [if_neg hq, if_neg hq2]; exact ⟨ts, rfl, h, h'⟩
 have hq5 := Int.emod_lt_of_pos k (show (0 : Int) < 5 by decide)
 have HQ : Hid (k % 5 = 3 ∨ k % 5 = 4) := (show _ ∨ _ by omega)
 have HT := hI ht
 have HS := hI hS
 have HA := hI hA
 have HI := hI KI
 obtain ⟨L, hLL⟩ : ∃ L, l.length = L := ⟨_, rfl⟩
 rw [hLL] at hL hc ⊢
 have HL := hI hLL
 clear hk hn hq hq2 hq5 hS hA KI ht hLL
 go_enter Tryz.func15, Tryz.ntmps15
 go_wp2_with fail
 have M := MdW.new w #[.int .i64 k, .int .i64 n, .string s, .slice A L c]
 refine (modO k 5 _ HK.out.1 HK.out.2 (by decide) (by decide)).mono ?_
 rintro e w1 ⟨rfl, rfl⟩
 generalize ((w.alloc (.cells #[.int .i64 k, .int .i64 n, .string s, .slice A L c] 26)).alloc (.cells #[.int .i64 0, .string ⟨#[]⟩, .string ⟨#[]⟩, .int .i64 0, .string ⟨#[]⟩, .string ⟨#[]⟩, .string ⟨#[]⟩, .string ⟨#[]⟩, .string ⟨#[]⟩, .slice none 0 0, .slice none 0 0] 35)) = W at M ⊢
 have hq := HQ.out
 clear HQ
 generalize k % 5 = q at hq ⊢
 go_wp2_with fail
 refine (varsT 4 (by decide) W).mono ?_
 rintro e w2 ⟨v, rfl, hv, hb2⟩
 have hbn := below_alT w2 (.cells #[.string ⟨#[102]⟩, .string ⟨#[103]⟩, .string ⟨#[104]⟩] 9)
 have HM := hI ((M.below hb2).below hbn)
 have hN : (w2.alloc (.cells #[.string ⟨#[102]⟩, .string ⟨#[103]⟩, .string ⟨#[104]⟩] 9)).heap[w2.heap.size]? = some (.cells #[.string ⟨#[102]⟩, .string ⟨#[103]⟩, .string ⟨#[104]⟩] 9 (0, 0)) := heap_alloc_new _ _
 have hNlt : w2.heap.size < (w2.alloc (.cells #[.string ⟨#[102]⟩, .string ⟨#[103]⟩, .string ⟨#[104]⟩] 9)).heap.size := by simp
 have HN2 := hI hN
 have HNL := hI hNlt
 obtain ⟨i0, hi0, hz0, hz1, hz2⟩ := infoT
 have HI0 := hI hi0
 have HZ0 := hI hz0
 have HZ1 := hI hz1
 have HZ2 := hI hz2
 have h0 : Hid (MtL PO (w2.alloc (.cells #[.string ⟨#[102]⟩, .string ⟨#[103]⟩, .string ⟨#[104]⟩] 9)) (w2.alloc (.cells #[.string ⟨#[102]⟩, .string ⟨#[103]⟩, .string ⟨#[104]⟩] 9)) l 0 (.slice none 0 0)) := ⟨[], [], MkT.start NoB _, rfl, mtsP_nil _ _⟩
 clear M hv hb2 hbn hN hNlt hi0 hz0 hz1 hz2
 obtain ⟨N, hNe⟩ : ∃ N, N = w2.heap.size := ⟨_, rfl⟩
 rcases hq with rfl | rfl
 all_goals
  go_wp2_with fail
  rw [← hNe] at HN2 HNL ⊢
  generalize w2.alloc (.cells #[.string ⟨#[102]⟩, .string ⟨#[103]⟩, .string ⟨#[104]⟩] 9) = Y at *
  clear hNe
  go_loopw [6, 7] (fun u v wr => ∃ (i : Nat) (sl : Value), sl = u ∧ i ≤ L ∧ i ≤ 3 ∧ v = .int .i64 (i : Int) ∧ Hid (MtL PO Y wr l i sl)) (fun _ v _ => L - (intOf v).toNat)
  case atStart => exact ⟨0, _, rfl, Nat.zero_le _, by decide, rfl, h0⟩
  case round =>
   clear h0
   obtain ⟨i, sl, rfl, hiL, hi3, rfl, hE⟩ := hrel
   obtain ⟨wo, rfl⟩ : ∃ wo : World, wo = wr := ⟨_, rfl⟩
   obtain ⟨ts, xs, hM, htl, hts⟩ := hE.out
   have hB := HM.out.below hM.bel
   have d1 : wo.cell? ⟨w.heap.size, 1, none⟩ = some (.int .i64 n) := hB.cell 1
   have d3 : wo.cell? ⟨w.heap.size, 3, none⟩ = some (.slice A L c) := hB.cell 3
   by_cases hlt : i < L
   · by_cases hlt3 : i < 3
     · have hil : i < l.length := by rw [HL.out]; exact hlt
       obtain ⟨b, o, hAe, hb, hrs⟩ := HA.out (by omega)
       rw [hAe] at d3
       clear hAe
       obtain ⟨cs, hcs, hcell⟩ := hrs.get hil
       have hcs' := hcs.below HS.out hB.bel
       have ha0 : b < w.heap.size := HS.out b hb
       obtain ⟨z0, z1, z2, z3, rfl⟩ : ∃ z0 z1 z2 z3, cs = [z0, z1, z2, z3] := by
        generalize l[i] = r at hcs
        cases r with
        | mk k n s l => unfold RawAt at hcs; obtain ⟨A, c, e, _⟩ := hcs; exact ⟨_, _, _, _, e⟩
       have l0 := (hB.bel.cell (p := ⟨b, o + i * 4 + 0, none⟩) ha0).trans (hcell 0 z0 rfl)
       have l1 := (hB.bel.cell (p := ⟨b, o + i * 4 + 1, none⟩) ha0).trans (hcell 1 z1 rfl)
       have l2 := (hB.bel.cell (p := ⟨b, o + i * 4 + 2, none⟩) ha0).trans (hcell 2 z2 rfl)
       have l3 := (hB.bel.cell (p := ⟨b, o + i * 4 + 3, none⟩) ha0).trans (hcell 3 z3 rfl)
       rw [Nat.add_zero] at l0
       have call := hI (HI.out i hil wo [z0, z1, z2, z3] (HS.out.later hB.bel.size) hcs' (HT.out.below hB.bel))
       have HSN : Hid (∀ t, mtP PO l[i] t → mtsP PO l (ts ++ [t])) := fun t h => by
        refine mtsP_snoc PO l ts t (by rw [htl]; exact hil) hts ?_
        simpa [htl] using h
       have HMK := hI hM
       have HTL := hI htl
       have hYs := hM.bel.size
       generalize l[i] = r at *
       clear hcell hcs hcs' hrs hB hM htl hts hE
       go_wp2_with fail
       refine call.out.mono ?_
       rintro e w3 ⟨t, ⟨cs3, rfl, h3, hb3⟩, hmt⟩
       have own3 := hI (HMK.out.own3 hb3 (.cells cs3.toArray 35))
       rw [HTL.out] at own3
       have HSTEP : Hid (∀ v' w4, w4.ownsRow Y.heap.size 35 11 v' (i + 1) (xs.flatten ++ cs3) → (w3.alloc (.cells cs3.toArray 35)).grownBy w4 sl.ownBlock → (v'.ownBlock = sl.ownBlock ∨ v'.ownBlock = some (w3.alloc (.cells cs3.toArray 35)).heap.size) → MtL PO Y w4 l (i + 1) v') :=
        fun v' w4 h4 hg hat => ⟨_, _, HMK.out.step (NoB.in _) hb3 _ h3 (by rw [HTL.out]; exact h4) hg hat, by rw [List.length_append, HTL.out]; rfl, HSN.out t hmt⟩
       have hone := h3.one
       have hnews : ∀ j u, cs3[j]? = some u → (w3.alloc (.cells cs3.toArray 35)).cell? ((⟨w3.heap.size, 0, none⟩ : Addr).add j) = some u := newsO (cs := cs3.toArray) rfl
       have hs3 : Y.heap.size ≤ (w3.alloc (.cells cs3.toArray 35)).heap.size := by have := hb3.size; simp; omega
       obtain ⟨y0, y1, y2, y3, y4, y5, y6, A3, c3, e3, _, _⟩ := h3.eleven
       subst e3
       have HONE := hI hone
       have HNEWS := hI hnews
       unfold vTm
       clear l0 l1 l2 l3 d1 d3 h3 hb3 call hone hnews hmt HSN HMK hYs
       go_wp2_with (at_builtin; refine wpList_append_own_at _ rfl (.tmp 46) (.tmp 53) _ rfl Y.heap.size 35 i0 _ 11 176 Tryz.underlying30 HI0.out HZ0.out HZ1.out HZ2.out rfl (by omega) sl i xs.flatten rfl own3.out ⟨w3.heap.size, 0, none⟩ 1 1 [.int .i64 t.kd, .string t.nm.1, .string t.nm.2, y0, y1, y2, y3, y4, y5, y6, .slice A3 t.args.length c3] rfl rfl HNEWS.out HONE.out (by simp only [maxLen]; omega) (by omega) hs3 ?_; intro v4 w4 hown4 hg4 hnil4 hat4; have hst := hI (HSTEP.out v4 w4 hown4 hg4 hat4); clear hown4 hg4 hnil4 hat4)
       go_roundw
       case rel => exact ⟨i + 1, _, rfl, by omega, by omega, by go_num, hst⟩
       case measure => simp [intOf]; omega
     · have hmin : i = min 3 L := by omega
       have hn3 : ¬ (i : Int) < 3 := by omega
       have CM := hI (modO n 3 wo HN.out.1 HN.out.2 (by decide) (by decide))
       have j0 := Int.emod_nonneg n (show (3 : Int) ≠ 0 by decide)
       have j1 := Int.emod_lt_of_pos n (show (0 : Int) < 3 by decide)
       obtain ⟨j, hj⟩ : ∃ j : Nat, n % 3 = j := ⟨(n % 3).toNat, by omega⟩
       have hfA : fAt n = uN (fNs.getD j ⟨#[102]⟩) := by unfold fAt; rw [hj]; rfl
       rw [hj] at CM j0 j1
       have hj3 : j < 3 := by omega
       have hNn := (hM.bel.block N HNL.out).trans HN2.out
       have cN : wo.cell? ⟨N, j, none⟩ = some (.string (fNs.getD j ⟨#[102]⟩)) := by
        rw [cell_of_row _ _ _ _ _ _ hNn]
        match j, hj3 with
        | 0, _ => rfl
        | 1, _ => rfl
        | 2, _ => rfl
       have HPt := hI (HP.out ts (by rw [htl, hmin, HL.out]) hts)
       rw [hfA] at HPt
       have CU := hI (userO (fNs.getD j ⟨#[102]⟩) wo)
       have hsl := hM.slice
       have hB1' := hB
       generalize fNs.getD j ⟨#[102]⟩ = nm at *
       have HSL := hI hsl
       have HB0 := hI hB
       have HMB := hI hM.bel
       clear hsl hB hM htl hts hE hB1' hNn hfA hj
       go_wp2_with fail
       refine CM.out.mono ?_
       rintro e w4 ⟨rfl, rfl⟩
       go_wp2_with fail
       refine CU.out.mono ?_
       rintro e w5 ⟨rfl, hb5⟩
       have HSL5 := HSL.out.below (fun b hb => upto_lt (NoB.in Y) HMB.out.size b hb) hb5
       have HIn5 : In (Upto Y wo NoB) w5 := fun b hb => Nat.lt_of_lt_of_le (upto_lt (NoB.in Y) HMB.out.size b hb) hb5.size
       have AC := hI (appR (uN nm) ts sl w5 (Upto Y wo NoB) HIn5 HSL5)
       have HB5 := hI (HB0.out.below hb5)
       have HS5 := hI hb5.size
       unfold uN at AC HPt
       clear HSL5 HIn5 hb5 HSL HB0 cN d1 d3 CU CM
       go_wp2_with fail
       refine AC.out.mono ?_
       rintro e w6 ⟨cs, rfl, h6, hb6⟩
       have HB := hI (HB5.out.below hb6)
       have O1 := hI h6.o11
       have HB1 := hI HB.out.b1
       have H6 : Hid (TmAt w6 (Upto w w6 NoB) (.app (BA [117, 115, 101, 114], nm) ts) cs) := h6.more fun b hb => by
        have h1 := HM.out.bel.size
        have h2 := HMB.out.size
        have h3 := HS5.out
        have h4 := hb6.size
        rcases hb with (h | ⟨h, h'⟩) | ⟨h, h'⟩
        · exact h.elim
        · exact .inr ⟨by omega, by omega⟩
        · exact .inr ⟨by omega, by omega⟩
       clear h6 hb6 AC
       go_wp2_with ((with_reducible refine storeTb (cs := cs) (.tmp 2) (.tmp 63) ?_ ?_ ?_ ?_ HB1.out ?_ ?_ ?_ ?_); rfl; rfl; rfl; rfl; rfl; exact O1.out.1; exact O1.out.2)
       exact retTb rfl rfl (HB1.out.set _) O1.out.1 ⟨_, ⟨_, rfl, TmAt.boxed H6.out HB1.out.nb _, below_setRowO HB.out.bel (by omega) _⟩, HPt.out⟩
   · have hmin : i = min 3 L := by omega
     have hnL : ¬ (i : Int) < L := by omega
     have CM := hI (modO n 3 wo HN.out.1 HN.out.2 (by decide) (by decide))
     have j0 := Int.emod_nonneg n (show (3 : Int) ≠ 0 by decide)
     have j1 := Int.emod_lt_of_pos n (show (0 : Int) < 3 by decide)
     obtain ⟨j, hj⟩ : ∃ j : Nat, n % 3 = j := ⟨(n % 3).toNat, by omega⟩
     have hfA : fAt n = uN (fNs.getD j ⟨#[102]⟩) := by unfold fAt; rw [hj]; rfl
     rw [hj] at CM j0 j1
     have hj3 : j < 3 := by omega
     have hNn := (hM.bel.block N HNL.out).trans HN2.out
     have cN : wo.cell? ⟨N, j, none⟩ = some (.string (fNs.getD j ⟨#[102]⟩)) := by
      rw [cell_of_row _ _ _ _ _ _ hNn]
      match j, hj3 with
      | 0, _ => rfl
      | 1, _ => rfl
      | 2, _ => rfl
     have HPt := hI (HP.out ts (by rw [htl, hmin, HL.out]) hts)
     rw [hfA] at HPt
     have CU := hI (userO (fNs.getD j ⟨#[102]⟩) wo)
     have hsl := hM.slice
     have hB1' := hB
     generalize fNs.getD j ⟨#[102]⟩ = nm at *
     have HSL := hI hsl
     have HB0 := hI hB
     have HMB := hI hM.bel
     clear hsl hB hM htl hts hE hB1' hNn hfA hj
     go_wp2_with fail
     refine CM.out.mono ?_
     rintro e w4 ⟨rfl, rfl⟩
     go_wp2_with fail
     refine CU.out.mono ?_
     rintro e w5 ⟨rfl, hb5⟩
     have HSL5 := HSL.out.below (fun b hb => upto_lt (NoB.in Y) HMB.out.size b hb) hb5
     have HIn5 : In (Upto Y wo NoB) w5 := fun b hb => Nat.lt_of_lt_of_le (upto_lt (NoB.in Y) HMB.out.size b hb) hb5.size
     have AC := hI (appR (uN nm) ts sl w5 (Upto Y wo NoB) HIn5 HSL5)
     have HB5 := hI (HB0.out.below hb5)
     have HS5 := hI hb5.size
     unfold uN at AC HPt
     clear HSL5 HIn5 hb5 HSL HB0 cN d1 d3 CU CM
     go_wp2_with fail
     refine AC.out.mono ?_
     rintro e w6 ⟨cs, rfl, h6, hb6⟩
     have HB := hI (HB5.out.below hb6)
     have O1 := hI h6.o11
     have HB1 := hI HB.out.b1
     have H6 : Hid (TmAt w6 (Upto w w6 NoB) (.app (BA [117, 115, 101, 114], nm) ts) cs) := h6.more fun b hb => by
      have h1 := HM.out.bel.size
      have h2 := HMB.out.size
      have h3 := HS5.out
      have h4 := hb6.size
      rcases hb with (h | ⟨h, h'⟩) | ⟨h, h'⟩
      · exact h.elim
      · exact .inr ⟨by omega, by omega⟩
      · exact .inr ⟨by omega, by omega⟩
     clear h6 hb6 AC
     go_wp2_with ((with_reducible refine storeTb (cs := cs) (.tmp 2) (.tmp 63) ?_ ?_ ?_ ?_ HB1.out ?_ ?_ ?_ ?_); rfl; rfl; rfl; rfl; rfl; exact O1.out.1; exact O1.out.2)
     exact retTb rfl rfl (HB1.out.set _) O1.out.1 ⟨_, ⟨_, rfl, TmAt.boxed H6.out HB1.out.nb _, below_setRowO HB.out.bel (by omega) _⟩, HPt.out⟩
theorem madeT (PO : Rw → Ob → Prop) (hPO : OMk PO) : ∀ (r : Rw) (cs : List Value) (w : World) (S : Nat → Prop), In S w → RawAt w S r cs → r.ok → Tab w → Calls Tryz.prog 15 #[.agg cs.toArray] w (RetTP w (mtP PO r)) := by
 intro r
 induction r using Rw.ind with
 | h k n s l ih =>
  intro cs w S hS h hok ht
  have h' := h
  unfold RawAt at h
  obtain ⟨A, c, rfl, hk, hn, hc, hcm, hA⟩ := h
  have hok' := hok
  unfold Rw.ok at hok
  obtain ⟨hs, hl, hoks⟩ := hok
  by_cases q1 : k % 5 < 2
  · exact madeVar PO k n s l A c w q1 hk hn
  · by_cases q2 : k % 5 = 2
    · exact madeCon PO hPO k n s l A c w S hS h' hok' ht q2 hk hn
    · exact madeApp PO k n s l A c w S hS hc hl hA ht q1 q2 hk hn fun i hi w cs hS hr ht => ih l[i] (List.getElem_mem hi) cs w S hS hr (Rw.oks_mem hoks _ (List.getElem_mem hi)) ht

def Rw.nn : Rw → Int
 | .mk _ n _ _ => n
theorem news_at {w : World} {cs : Array Value} {t : TypeId} {b : Nat} (hb : w.heap[b]? = some (.cells cs t (0, 0))) : ∀ j u, cs.toList[j]? = some u → w.cell? ((⟨b, 0, none⟩ : Addr).add j) = some u := by
 intro j u hj
 have e : (Addr.add ⟨b, 0, none⟩ j) = ⟨b, j, none⟩ := by
  unfold Addr.add
  split
  · rename_i h; rw [h]
  · simp
 rw [e, cell_of_row _ _ _ _ _ _ hb]
 simpa using hj
end Go.Proofs.YtinjhnnpbejccaaGreatDoor
