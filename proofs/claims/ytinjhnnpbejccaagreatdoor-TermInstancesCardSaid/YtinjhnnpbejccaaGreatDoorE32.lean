/- The reference: Instance. -/
import Derived.BigQuiet
import Derived.Test.YtinjhnnpbejccaaGreatDoorE19
import Derived.Test.YtinjhnnpbejccaaGreatDoorE31
namespace Go.Proofs.YtinjhnnpbejccaaGreatDoor
open Go Go.RowKit
set_option linter.unusedVariables false
set_option maxHeartbeats 32000000
set_option maxRecDepth 100000
theorem instT_app {l : List Lm} {t : Tm} (hk : t.kd = 3) : instT l t = match okF t.args.length (findF l t.nm) with
 | some f => subT (bindF f.2.1 (t.args.map (instT l))) f.2.2
 | none => .app t.nm (t.args.map (instT l)) := by
 cases t with
 | var s => exact absurd hk (by simp [Tm.kd])
 | con o => exact absurd hk (by simp [Tm.kd])
 | app s ts =>
  unfold instT
  rw [instTs_map, replF_eq]
  rfl
theorem instanceR (l : List Lm) (hbn : ∀ f ∈ l, f.2.2.nodes ≤ 3000) (hll : l.length ≤ 10000) (S : Nat → Prop) : ∀ (t : Tm) (w : World) (cs : List Value) (lv : Value), In S w → t.nodes ≤ 3000 → TmAt w S t cs → LmsV w S l lv →
 Calls Tryz.prog 48 #[vTm cs, lv] w (RetT w S (instT l t)) := by
 intro t
 induction t using Tm.indA with
 | h t ih =>
  intro w cs lv hS hn h hlm
  have h' := h
  obtain ⟨x0, x1, x2, x3, x4, x5, x6, A, c, rfl, _, ha⟩ := h'.eleven
  have hlm' := hlm
  obtain ⟨Al, cl, rfl, hml, _⟩ := hlm'
  have hle := ha.1
  have hA : Below w.heap.size w ((w.alloc (.cells #[.int .i64 t.kd, .string t.nm.1, .string t.nm.2, x0, x1, x2, x3, x4, x5, x6, .slice A t.args.length c] 35)).alloc (.cells #[.int .i64 0, .string ⟨#[]⟩, .string ⟨#[]⟩, .int .i64 0, .string ⟨#[]⟩, .string ⟨#[]⟩, .string ⟨#[]⟩, .string ⟨#[]⟩, .string ⟨#[]⟩, .slice none 0 0, .slice none 0 0] 35)) := Below.alloc (Below.alloc (Below.refl _ _) (Nat.le_refl _) _) (by simp) _
  have H2 : Hid (TB ((w.alloc (.cells #[.int .i64 t.kd, .string t.nm.1, .string t.nm.2, x0, x1, x2, x3, x4, x5, x6, .slice A t.args.length c] 35)).alloc (.cells #[.int .i64 0, .string ⟨#[]⟩, .string ⟨#[]⟩, .int .i64 0, .string ⟨#[]⟩, .string ⟨#[]⟩, .string ⟨#[]⟩, .string ⟨#[]⟩, .string ⟨#[]⟩, .slice none 0 0, .slice none 0 0] 35)) w.heap.size [.int .i64 t.kd, .string t.nm.1, .string t.nm.2, x0, x1, x2, x3, x4, x5, x6, .slice A t.args.length c]) := (Below.heap_alloc _ _ _ (by simp)).trans (heap_alloc_new w _)
  have H4 : Hid (TB ((w.alloc (.cells #[.int .i64 t.kd, .string t.nm.1, .string t.nm.2, x0, x1, x2, x3, x4, x5, x6, .slice A t.args.length c] 35)).alloc (.cells #[.int .i64 0, .string ⟨#[]⟩, .string ⟨#[]⟩, .int .i64 0, .string ⟨#[]⟩, .string ⟨#[]⟩, .string ⟨#[]⟩, .string ⟨#[]⟩, .string ⟨#[]⟩, .slice none 0 0, .slice none 0 0] 35)) (w.heap.size + 1) zT) := heap_new_at (by simp)
  have HSY : Hid (In S ((w.alloc (.cells #[.int .i64 t.kd, .string t.nm.1, .string t.nm.2, x0, x1, x2, x3, x4, x5, x6, .slice A t.args.length c] 35)).alloc (.cells #[.int .i64 0, .string ⟨#[]⟩, .string ⟨#[]⟩, .int .i64 0, .string ⟨#[]⟩, .string ⟨#[]⟩, .string ⟨#[]⟩, .string ⟨#[]⟩, .string ⟨#[]⟩, .slice none 0 0, .slice none 0 0] 35))) := hS.later hA.size
  have HT : Hid (TmAt ((w.alloc (.cells #[.int .i64 t.kd, .string t.nm.1, .string t.nm.2, x0, x1, x2, x3, x4, x5, x6, .slice A t.args.length c] 35)).alloc (.cells #[.int .i64 0, .string ⟨#[]⟩, .string ⟨#[]⟩, .int .i64 0, .string ⟨#[]⟩, .string ⟨#[]⟩, .string ⟨#[]⟩, .string ⟨#[]⟩, .string ⟨#[]⟩, .slice none 0 0, .slice none 0 0] 35)) S t [.int .i64 t.kd, .string t.nm.1, .string t.nm.2, x0, x1, x2, x3, x4, x5, x6, .slice A t.args.length c]) := h.below hS hA
  have HLM : Hid (LmsV ((w.alloc (.cells #[.int .i64 t.kd, .string t.nm.1, .string t.nm.2, x0, x1, x2, x3, x4, x5, x6, .slice A t.args.length c] 35)).alloc (.cells #[.int .i64 0, .string ⟨#[]⟩, .string ⟨#[]⟩, .int .i64 0, .string ⟨#[]⟩, .string ⟨#[]⟩, .string ⟨#[]⟩, .string ⟨#[]⟩, .string ⟨#[]⟩, .slice none 0 0, .slice none 0 0] 35)) S l (.slice Al l.length cl)) := hlm.below hS hA
  have OT := hI h.o11
  have IH : Hid (∀ x ∈ t.args, ∀ X cx, Below ((w.alloc (.cells #[.int .i64 t.kd, .string t.nm.1, .string t.nm.2, x0, x1, x2, x3, x4, x5, x6, .slice A t.args.length c] 35)).alloc (.cells #[.int .i64 0, .string ⟨#[]⟩, .string ⟨#[]⟩, .int .i64 0, .string ⟨#[]⟩, .string ⟨#[]⟩, .string ⟨#[]⟩, .string ⟨#[]⟩, .string ⟨#[]⟩, .slice none 0 0, .slice none 0 0] 35)).heap.size ((w.alloc (.cells #[.int .i64 t.kd, .string t.nm.1, .string t.nm.2, x0, x1, x2, x3, x4, x5, x6, .slice A t.args.length c] 35)).alloc (.cells #[.int .i64 0, .string ⟨#[]⟩, .string ⟨#[]⟩, .int .i64 0, .string ⟨#[]⟩, .string ⟨#[]⟩, .string ⟨#[]⟩, .string ⟨#[]⟩, .string ⟨#[]⟩, .slice none 0 0, .slice none 0 0] 35)) X → TmAt X S x cx → Calls Tryz.prog 48 #[vTm cx, .slice Al l.length cl] X (RetT X S (instT l x))) := fun x hx X cx hX hx2 => ih x hx X cx _ (HSY.out.later hX.size) (by have := Tm.nodes_mem hx; have := t.nodes_args; omega) hx2 (HLM.out.below HSY.out hX)
  have HAR : Hid (ArgsAt ((w.alloc (.cells #[.int .i64 t.kd, .string t.nm.1, .string t.nm.2, x0, x1, x2, x3, x4, x5, x6, .slice A t.args.length c] 35)).alloc (.cells #[.int .i64 0, .string ⟨#[]⟩, .string ⟨#[]⟩, .int .i64 0, .string ⟨#[]⟩, .string ⟨#[]⟩, .string ⟨#[]⟩, .string ⟨#[]⟩, .string ⟨#[]⟩, .slice none 0 0, .slice none 0 0] 35)) S t.args A c) := ha.below hS hA
  have HA := hI hA
  have hlen : t.args.length ≤ 3000 := by have := t.nodes_args; have := Tm.nodesL_len t.args; omega
  have HBN := hI hbn
  unfold vTm
  obtain ⟨M, hM⟩ : ∃ M, l.length = M := ⟨_, rfl⟩
  have HM := hI hM
  rw [hM] at hll hml ⊢
  clear h h' hA hS ih ha hn hlm hM hbn
  go_enter Tryz.func48, Tryz.ntmps48
  go_upto_region 1 with fail
  generalize ((w.alloc (.cells #[.int .i64 t.kd, .string t.nm.1, .string t.nm.2, x0, x1, x2, x3, x4, x5, x6, .slice A t.args.length c] 35)).alloc (.cells #[.int .i64 0, .string ⟨#[]⟩, .string ⟨#[]⟩, .int .i64 0, .string ⟨#[]⟩, .string ⟨#[]⟩, .string ⟨#[]⟩, .string ⟨#[]⟩, .string ⟨#[]⟩, .slice none 0 0, .slice none 0 0] 35)) = Y at *
  have k0 := TB.cell H2.out 0 _ rfl
  by_cases hk : t.kd = 3
  · replace k0 : Y.cell? ⟨w.heap.size, 0, none⟩ = some (.int .i64 3) := by rw [← hk]; exact TB.cell H2.out 0 _ rfl
    obtain ⟨L, hL⟩ : ∃ L, t.args.length = L := ⟨_, rfl⟩
    have HL := hI hL
    rw [hL] at hle hlen
    obtain ⟨i0, hi0, hz0, hz1, hz2⟩ := infoT
    have HI0 := hI hi0
    have HZ0 := hI hz0
    have HZ1 := hI hz1
    have HZ2 := hI hz2
    have h0 : Hid (MkT S Y Y ((t.args.take 0).map (instT l)) (.slice none 0 0) []) := MkT.start S Y
    have HK := hI hk
    clear hi0 hz0 hz1 hz2 hL hk
    go_wp2_with fail
    go_loopw [5, 6] (fun u9 v9 wr => ∃ (i : Nat) (xs : List (List Value)) (sl : Value), sl = u9 ∧ i ≤ L ∧ v9 = .int .i64 (i : Int) ∧ Hid (MkT S Y wr ((t.args.take i).map (instT l)) sl xs)) (fun _ v9 _ => L - (intOf v9).toNat)
    case atStart => exact ⟨0, [], _, rfl, Nat.zero_le _, rfl, h0⟩
    case round =>
     clear h0 k0
     obtain ⟨i, xs, sl, rfl, hiL, rfl, hE⟩ := hrel
     obtain ⟨wo, rfl⟩ : ∃ wo : World, wo = wr := ⟨_, rfl⟩
     have hbel := hE.out.bel
     have hs1 := hbel.size
     have HSO : Hid (In S wo) := HSY.out.later hs1
     have HMK := hI hE.out
     have HEB := hI hbel
     replace H2 := hI (H2.out.keep hbel)
     replace H4 := hI (H4.out.keep hbel)
     rw [HL.out] at H2
     have j10 := TB.cell H2.out 10 _ rfl
     clear hE
     by_cases hlt : i < L
     · have hil : i < t.args.length := by rw [HL.out]; exact hlt
       obtain ⟨ba, oa, cx, rfl, hP⟩ := HAR.out.arg hil
       have hP' := hP.below HSY.out hbel
       have htm : t.args[i] ∈ t.args := List.getElem_mem hil
       have HTK : Hid ((t.args.take (i + 1)).map (instT l) = (t.args.take i).map (instT l) ++ [instT l t.args[i]]) := (show _ = _ by rw [List.take_add_one, List.getElem?_eq_getElem hil, List.map_append]; rfl)
       have HLN : Hid (((t.args.take i).map (instT l)).length = i) := (show _ = _ by simp; omega)
       generalize t.args[i] = x at *
       obtain ⟨z0, z1, z2, z3, z4, z5, z6, A5, c5, rfl, hva, har2, k0, k1, k2, k3, k4, k5, k6, k7, k8, k9, k10⟩ := hP'.cells
       have CALL : Hid (Calls Tryz.prog 48 #[.agg #[.int .i64 x.kd, .string x.nm.1, .string x.nm.2, z0, z1, z2, z3, z4, z5, z6, .slice A5 x.args.length c5], .slice Al M cl] wo (RetT wo S (instT l x))) := (show Calls _ _ _ _ _ by
        have h := IH.out x htm wo _ hbel hP'.2.1
        rw [HM.out] at h
        exact h)
       clear hP hP' htm hva har2 IH hbel
       go_wp2_with fail
       refine CALL.out.mono ?_
       rintro e w3 ⟨cs3, rfl, h3, hb3⟩
       have O3 := hI h3.o11
       obtain ⟨tt, htt⟩ : ∃ tt, instT l x = tt := ⟨_, rfl⟩
       rw [htt] at h3 HTK
       obtain ⟨u0, u1, u2, u3, u4, u5, u6, A7, c7, e7, _, _⟩ := h3.eleven
       subst e7
       have own3 := hI (HMK.out.own3 hb3 (.cells #[.int .i64 tt.kd, .string tt.nm.1, .string tt.nm.2, u0, u1, u2, u3, u4, u5, u6, .slice A7 tt.args.length c7] 35))
       rw [HLN.out] at own3
       have HSTEP : Hid (∀ v' w4, w4.ownsRow Y.heap.size 35 11 v' (i + 1) (xs.flatten ++ [.int .i64 tt.kd, .string tt.nm.1, .string tt.nm.2, u0, u1, u2, u3, u4, u5, u6, .slice A7 tt.args.length c7]) → (w3.alloc (.cells #[.int .i64 tt.kd, .string tt.nm.1, .string tt.nm.2, u0, u1, u2, u3, u4, u5, u6, .slice A7 tt.args.length c7] 35)).grownBy w4 sl.ownBlock → (v'.ownBlock = sl.ownBlock ∨ v'.ownBlock = some (w3.alloc (.cells #[.int .i64 tt.kd, .string tt.nm.1, .string tt.nm.2, u0, u1, u2, u3, u4, u5, u6, .slice A7 tt.args.length c7] 35)).heap.size) → ∃ xs', MkT S Y w4 ((t.args.take (i + 1)).map (instT l)) v' xs') :=
        fun v' w4 h4 hg hat => ⟨_, by rw [HTK.out]; exact HMK.out.step HSY.out hb3 _ h3 (by rw [HLN.out]; exact h4) hg hat⟩
       have hrow : (w3.alloc (.cells #[.int .i64 tt.kd, .string tt.nm.1, .string tt.nm.2, u0, u1, u2, u3, u4, u5, u6, .slice A7 tt.args.length c7] 35)).heap[w3.heap.size]? = some (.cells #[.int .i64 tt.kd, .string tt.nm.1, .string tt.nm.2, u0, u1, u2, u3, u4, u5, u6, .slice A7 tt.args.length c7] 35 (0, 0)) := heap_alloc_new w3 _
       have HNEWS := hI (news_at hrow)
       have hs3 : Y.heap.size ≤ (w3.alloc (.cells #[.int .i64 tt.kd, .string tt.nm.1, .string tt.nm.2, u0, u1, u2, u3, u4, u5, u6, .slice A7 tt.args.length c7] 35)).heap.size := by have := hb3.size; simp only [World.size_alloc]; omega
       clear h3 hb3 CALL HMK htt j10 hrow HTK k0 k1 k2 k3 k4 k5 k6 k7 k8 k9 k10
       unfold vTm
       go_wp2_with (at_builtin; refine wpList_append_own_at _ rfl (.tmp 19) (.tmp 27) _ rfl Y.heap.size 35 i0 _ 11 176 Tryz.underlying30 HI0.out HZ0.out HZ1.out HZ2.out rfl (by omega) sl i xs.flatten rfl own3.out ⟨w3.heap.size, 0, none⟩ 1 1 [.int .i64 tt.kd, .string tt.nm.1, .string tt.nm.2, u0, u1, u2, u3, u4, u5, u6, .slice A7 tt.args.length c7] rfl rfl HNEWS.out O3.out.2 (by simp only [maxLen]; omega) (by omega) hs3 ?_; intro v4 w4 hown4 hg4 hnil4 hat4; have hst := hI (HSTEP.out v4 w4 hown4 hg4 hat4); clear hown4 hg4 hnil4 hat4)
       go_roundw
       case rel =>
        obtain ⟨xs', hst'⟩ := hst.out
        exact ⟨i + 1, xs', _, rfl, by omega, by go_num, hst'⟩
       case measure => simp [intOf]; omega
     · have hiL2 : i = L := by omega
       have hn2 : ¬ (i : Int) < L := by omega
       have hM : MkT S Y wo (t.args.map (instT l)) sl xs := by
        have h := HMK.out
        rw [hiL2, ← HL.out, List.take_length] at h
        exact h
       obtain ⟨Ao, co, hsl, hao⟩ := hM.slice
       obtain ⟨os, hos⟩ : ∃ os, t.args.map (instT l) = os := ⟨_, rfl⟩
       rw [hos] at hsl hao
       have hoslen : os.length = t.args.length := by rw [← hos]; simp
       obtain ⟨N, hN⟩ : ∃ N, os.length = N := ⟨_, rfl⟩
       have HN := hI hN
       rw [hN] at hsl
       subst hsl
       have hNL : N = L := by rw [← hN, hoslen, HL.out]
       have HN3 : Hid (N ≤ 3000) := (show _ ≤ _ by omega)
       obtain ⟨S2, hS2⟩ : ∃ S2, Upto Y wo S = S2 := ⟨_, rfl⟩
       have HS2X : Hid (In S2 wo) := (show In _ _ from by rw [← hS2]; exact HSY.out.upto hs1)
       rw [hS2] at hao
       have HAO : Hid (ArgsAt wo S2 os Ao co) := hao
       have HTS : Hid (TsV wo S2 os (.slice Ao os.length co)) := ⟨Ao, co, rfl, hao⟩
       have HSS : Hid (∀ b, S b → S2 b) := (show ∀ _, _ from fun b hb => by rw [← hS2]; exact .inl hb)
       have H2X := H2
       have H4X := H4
       have HBX : Hid (Below w.heap.size w wo) := HA.out.trans (hbel.mono HA.out.size)
       have HUP : Hid (∀ V : World, wo.heap.size ≤ V.heap.size → ∀ w5 : World, V.heap.size ≤ w5.heap.size → ∀ b, Upto V w5 S2 b → Upto w w5 S b) := (show ∀ _, _ from fun V hV w5 h5 b hb => by
        have q1 := HA.out.size
        rw [← hS2] at hb
        rcases hb with (h0 | h0) | h0
        · exact .inl h0
        · exact .inr ⟨by omega, by omega⟩
        · exact .inr ⟨by omega, by omega⟩)
       obtain ⟨RF, hRF⟩ : ∃ RF, findF l t.nm = RF := ⟨_, rfl⟩
       have HINST : Hid (instT l t = match okF N RF with
        | some f => subT (bindF f.2.1 os) f.2.2
        | none => .app t.nm os) := (show _ = _ by rw [instT_app HK.out, hRF, hos, hNL, HL.out])
       have hc9 : N ≤ co := by rw [← hN]; exact hao.1
       have HLMX : Hid (LmsV wo S l (.slice Al l.length cl)) := HLM.out.below HSY.out hbel
       have h0 : Hid (findF (l.drop 0) t.nm = RF ∧ Below wo.heap.size wo wo) := ⟨by rw [List.drop_zero]; exact hRF, Below.refl _ _⟩
       clear hM hiL2 hlt HMK IH hao hoslen hN hNL hS2 hRF hos HAR HLM
       obtain ⟨X, hX⟩ : ∃ X : World, wo = X := ⟨_, rfl⟩
       subst hX
       clear hiL
       go_wp2_with fail
       clear j10
       go_loopw [7] (fun v9 wr => ∃ (j : Nat), j ≤ M ∧ v9 = .int .i64 (j : Int) ∧ Hid (findF (l.drop j) t.nm = RF ∧ Below wo.heap.size wo wr)) (fun v9 _ => M - (intOf v9).toNat)
       case atStart => exact ⟨0, Nat.zero_le _, rfl, h0⟩
       case round =>
        clear h0
        obtain ⟨j, hjM, rfl, hE⟩ := hrel
        obtain ⟨wv, rfl⟩ : ∃ wv : World, wv = wr := ⟨_, rfl⟩
        obtain ⟨hf, wvB⟩ := hE.out
        clear hE
        by_cases hltj : j < M
        · have hjl : j < l.length := by rw [HM.out]; exact hltj
          obtain ⟨bl, ol, rfl, hLP⟩ := HLMX.out.at hjl
          have hLPv := hLP.below HSO.out wvB
          have hbl : bl < wv.heap.size := Nat.lt_of_lt_of_le (HSO.out bl hLP.1.1) wvB.size
          have step := findF_drop hjl t.nm
          rw [hf] at step
          have hfm : l[j] ∈ l := List.getElem_mem hjl
          generalize l[j] = f at *
          obtain ⟨Ap, cp, x0, x1, x2, x3, x4, x5, x6, A3, c3, hns, htb, l0, l1, l2, k0, k1, k2, k3, k4, k5, k6, k7, k8, k9, k10⟩ := hLPv.cells
          have n1 := TB.cell (H2X.out.keep wvB) 1 _ rfl
          have n2 := TB.cell (H2X.out.keep wvB) 2 _ rfl
          unfold eqN at step
          clear hf hjl hLP hLPv
          have HVB := hI wvB
          cases h1 : (f.1.1.toList == t.nm.1.toList) with
          | false =>
           rw [h1] at step
           have HST : Hid (findF (l.drop (j + 1)) t.nm = RF) := (show findF (l.drop (j + 1)) t.nm = RF from by rw [step]; simp)
           clear step
           go_wp2_with fail
           go_quiet (fail)
           go_wp2
           go_roundw
           case rel => exact ⟨j + 1, by omega, by go_num, ⟨HST.out, HVB.out.trans ((below_dn _ _).mono HVB.out.size)⟩⟩
           case measure => simp [intOf]; omega
          | true =>
           cases h2 : (f.1.2.toList == t.nm.2.toList) with
           | false =>
            rw [h1, h2] at step
            have HST : Hid (findF (l.drop (j + 1)) t.nm = RF) := (show findF (l.drop (j + 1)) t.nm = RF from by rw [step]; simp)
            clear step
            go_wp2_with fail
            go_quiet (fail)
            go_wp2
            go_roundw
            case rel => exact ⟨j + 1, by omega, by go_num, ⟨HST.out, HVB.out.trans ((below_dn _ _).mono HVB.out.size)⟩⟩
            case measure => simp [intOf]; omega
           | true =>
            rw [h1, h2] at step
            have hR : RF = some f := by rw [step]; simp
            subst hR
            clear step
            go_wp2_with fail
            go_quiet (fail)
            change (wv.drewN nq).cell? _ = _ at l2 k0 k1 k2 k3 k4 k5 k6 k7 k8 k9 k10
            have VB : Below wo.heap.size wo (wv.drewN nq) := HVB.out.trans ((below_dn _ _).mono HVB.out.size)
            have hnsV : NsV (wv.drewN nq) S f.2.1 (.slice Ap f.2.1.length cp) := NsV.keep (w := wv) (w' := wv.drewN nq) (S := S) (S' := S) (fun _ h => h) (fun _ _ => rfl) hns
            have htbV : TmAt (wv.drewN nq) S f.2.2 [.int .i64 f.2.2.kd, .string f.2.2.nm.1, .string f.2.2.nm.2, x0, x1, x2, x3, x4, x5, x6, .slice A3 f.2.2.args.length c3] := TmAt.keep (w := wv) (w' := wv.drewN nq) (S := S) (S' := S) (fun _ h => h) (fun _ _ => rfl) _ _ htb
            have HBL : Hid (bl < (wv.drewN nq).heap.size) := hbl
            clear HVB wvB n1 n2 l0 l1 hns htb hbl
            generalize wv.drewN nq = V at *
            have HVB := hI VB
            by_cases hNN : f.2.1.length = N
            · have hne : ((f.2.1.length : Int) != (N : Int)) = false := by rw [bne_eq_false_iff_eq]; omega
              have HZZ : Hid (instT l t = subT (bindF f.2.1 os) f.2.2) := (show _ = _ by
               rw [HINST.out]
               have e : okF N (some f) = some f := if_pos hNN
               rw [e])
              have HSV : Hid (In S2 V) := HS2X.out.later VB.size
              have hN2 : NsV V S2 f.2.1 (.slice Ap f.2.1.length cp) := hnsV.more HSS.out
              have hT2 : TmAt V S2 f.2.2 [.int .i64 f.2.2.kd, .string f.2.2.nm.1, .string f.2.2.nm.2, x0, x1, x2, x3, x4, x5, x6, .slice A3 f.2.2.args.length c3] := htbV.more HSS.out
              have hA2 : ArgsAt V S2 os Ao co := HAO.out.below HS2X.out VB
              have hlo : f.2.1.length = os.length := by rw [hNN, HN.out]
              have BIC : Hid (∀ w9, Below V.heap.size V w9 → Calls Tryz.prog 83 #[.slice Ap f.2.1.length cp, .slice Ao N co] w9 (RetAs w9 S2 (bindF f.2.1 os))) := (show ∀ _, _ from fun w9 hb => by
               have h := bindR f.2.1 os _ Ao co w9 S2 (HSV.out.later hb.size) (hN2.below HSV.out hb) (hA2.below HSV.out hb) hlo (by have := HN3.out; omega)
               rw [HN.out] at h
               exact h)
              have SUC : Hid (∀ w9, Below V.heap.size V w9 → ∀ va, AsV w9 (Upto V w9 S2) (bindF f.2.1 os) va → Calls Tryz.prog 35 #[.agg #[.int .i64 f.2.2.kd, .string f.2.2.nm.1, .string f.2.2.nm.2, x0, x1, x2, x3, x4, x5, x6, .slice A3 f.2.2.args.length c3], va] w9 (RetT w9 (Upto V w9 S2) (subT (bindF f.2.1 os) f.2.2))) := (show ∀ _, _ from fun w9 hb va hva => substituteR (bindF f.2.1 os) va (Upto V w9 S2) (by rw [bindF_len _ _ hlo]; have := HN3.out; omega) f.2.2 w9 _ (HSV.out.upto hb.size) hva (HBN.out f hfm) ((hT2.below HSV.out hb).more (fun b hb => .inl hb)))
              have HS2 := HSV
              have KP := hI l2
              have K0 := hI k0
              have K1 := hI k1
              have K2 := hI k2
              have K3 := hI k3
              have K4 := hI k4
              have K5 := hI k5
              have K6 := hI k6
              have K7 := hI k7
              have K8 := hI k8
              have K9 := hI k9
              have K10 := hI k10
              have HUV := hI (HUP.out V VB.size)
              clear k0 k1 k2 k3 k4 k5 k6 k7 k8 k9 k10 hnsV htbV hN2 hT2 hA2 hlo hfm VB
              generalize f.2.1.length = pn at *
              obtain rfl : N = pn := hNN.symm
              clear hne
              have hne : ((N : Int) != (N : Int)) = false := bne_self_eq_false _
              go_wp2_with fail
              refine wp_region_grow (l := _) 13 (by kernel_rfl) (by kernel_rfl) (fun i => [52, 53, 54, 55, 56, 57, 58, 59, 60, 61, 62, 63, 64].getD i 0) (LR [LV (.slice (some ⟨bl, ol, none⟩) M cl), LV (.int .i64 (j : Int)), LV (.pointer (some ⟨bl, ol + j * 14, none⟩)), LV (.pointer (some ⟨bl, ol + j * 14 + 3, none⟩)), LV (.agg #[.int .i64 f.2.2.kd, .string f.2.2.nm.1, .string f.2.2.nm.2, x0, x1, x2, x3, x4, x5, x6, .slice A3 f.2.2.args.length c3]), LV (.slice (some ⟨bl, ol, none⟩) M cl), LV (.int .i64 (j : Int)), LV (.pointer (some ⟨bl, ol + j * 14, none⟩)), LV (.pointer (some ⟨bl, ol + j * 14 + 2, none⟩)), LV (.slice Ap N cp), LV (.slice Ao N co), LAv V S2 (bindF f.2.1 os), LTm V S2 (subT (bindF f.2.1 os) f.2.2)]) (LR_mono ⟨mLV _, mLV _, mLV _, mLV _, mLV _, mLV _, mLV _, mLV _, mLV _, mLV _, mLV _, mLAv HS2.out _, mLTm HS2.out _, trivial⟩) (by
               intro i j hi hj h
               exact inj_getD [52, 53, 54, 55, 56, 57, 58, 59, 60, 61, 62, 63, 64] (by decide) i j hi hj h) (by
               intro i hi
               exact lt_getD 69 [52, 53, 54, 55, 56, 57, 58, 59, 60, 61, 62, 63, 64] (by decide) i hi) ?step ?done
              case step =>
               intro ii hii a w9 v lo hi' hoth hb hw
               have sl1 : a.tmps[1]? = some (.slice (some ⟨bl, ol, none⟩) M cl) := (hoth 1 (fun j hj => ne_getD 1 _ (by decide) j hj)).trans rfl
               have sl7 : a.tmps[7]? = some (.int .i64 (j : Int)) := (hoth 7 (fun j hj => ne_getD 7 _ (by decide) j hj)).trans rfl
               have sl5 : a.tmps[5]? = some (.slice Ao N co) := (hoth 5 (fun j hj => ne_getD 5 _ (by decide) j hj)).trans rfl
               match ii, hii with
               | 0, _ =>
                exact gw_move rfl (wanted_plain rfl) 1 _ rfl sl1 ⟨_, rfl, Below.refl _ _, rfl⟩
               | 1, _ =>
                exact gw_move rfl (wanted_plain rfl) 7 _ rfl sl7 ⟨_, rfl, Below.refl _ _, rfl⟩
               | 2, _ =>
                obtain ⟨s0, r0, _⟩ := hw 0 (by omega) (by kernel_rfl)
                have e0 : v 0 = .slice (some ⟨bl, ol, none⟩) M cl := r0
                rw [e0] at s0
                replace s0 : a.tmps[52]? = some (.slice (some ⟨bl, ol, none⟩) M cl) := s0
                obtain ⟨s1, r1, _⟩ := hw 1 (by omega) (by kernel_rfl)
                have e1 : v 1 = .int .i64 (j : Int) := r1
                rw [e1] at s1
                replace s1 : a.tmps[53]? = some (.int .i64 (j : Int)) := s1
                refine wpOp_step rfl fun K' hK' => ?_
                rw [if_pos (wanted_plain rfl)]
                unfold Oper.wp
                simp only [execOp]
                go_simp
                exact hK' _ _ ⟨_, rfl, Below.refl _ _, rfl⟩
               | 3, _ =>
                obtain ⟨s0, r0, _⟩ := hw 2 (by omega) (by kernel_rfl)
                have e0 : v 2 = .pointer (some ⟨bl, ol + j * 14, none⟩) := r0
                rw [e0] at s0
                replace s0 : a.tmps[54]? = some (.pointer (some ⟨bl, ol + j * 14, none⟩)) := s0
                refine wpOp_step rfl fun K' hK' => ?_
                rw [if_pos (wanted_plain rfl)]
                unfold Oper.wp
                simp only [execOp]
                go_simp
                exact hK' _ _ ⟨_, rfl, Below.refl _ _, rfl⟩
               | 4, _ =>
                obtain ⟨s0, r0, _⟩ := hw 3 (by omega) (by kernel_rfl)
                have e0 : v 3 = .pointer (some ⟨bl, ol + j * 14 + 3, none⟩) := r0
                rw [e0] at s0
                replace s0 : a.tmps[55]? = some (.pointer (some ⟨bl, ol + j * 14 + 3, none⟩)) := s0
                have ck0 := (hb.cell (p := ⟨bl, ol + j * 14 + 3, none⟩) HBL.out).trans K0.out
                have ck1 := (hb.cell (p := ⟨bl, ol + j * 14 + 4, none⟩) HBL.out).trans K1.out
                have ck2 := (hb.cell (p := ⟨bl, ol + j * 14 + 5, none⟩) HBL.out).trans K2.out
                have ck3 := (hb.cell (p := ⟨bl, ol + j * 14 + 6, none⟩) HBL.out).trans K3.out
                have ck4 := (hb.cell (p := ⟨bl, ol + j * 14 + 7, none⟩) HBL.out).trans K4.out
                have ck5 := (hb.cell (p := ⟨bl, ol + j * 14 + 8, none⟩) HBL.out).trans K5.out
                have ck6 := (hb.cell (p := ⟨bl, ol + j * 14 + 9, none⟩) HBL.out).trans K6.out
                have ck7 := (hb.cell (p := ⟨bl, ol + j * 14 + 10, none⟩) HBL.out).trans K7.out
                have ck8 := (hb.cell (p := ⟨bl, ol + j * 14 + 11, none⟩) HBL.out).trans K8.out
                have ck9 := (hb.cell (p := ⟨bl, ol + j * 14 + 12, none⟩) HBL.out).trans K9.out
                have ck10 := (hb.cell (p := ⟨bl, ol + j * 14 + 13, none⟩) HBL.out).trans K10.out
                refine wpOp_step rfl fun K' hK' => ?_
                rw [if_pos (wanted_plain rfl)]
                unfold Oper.wp
                simp only [execOp]
                go_simp
                exact hK' _ _ ⟨_, rfl, Below.refl _ _, rfl⟩
               | 5, _ =>
                exact gw_move rfl (wanted_plain rfl) 1 _ rfl sl1 ⟨_, rfl, Below.refl _ _, rfl⟩
               | 6, _ =>
                exact gw_move rfl (wanted_plain rfl) 7 _ rfl sl7 ⟨_, rfl, Below.refl _ _, rfl⟩
               | 7, _ =>
                obtain ⟨s0, r0, _⟩ := hw 5 (by omega) (by kernel_rfl)
                have e0 : v 5 = .slice (some ⟨bl, ol, none⟩) M cl := r0
                rw [e0] at s0
                replace s0 : a.tmps[57]? = some (.slice (some ⟨bl, ol, none⟩) M cl) := s0
                obtain ⟨s1, r1, _⟩ := hw 6 (by omega) (by kernel_rfl)
                have e1 : v 6 = .int .i64 (j : Int) := r1
                rw [e1] at s1
                replace s1 : a.tmps[58]? = some (.int .i64 (j : Int)) := s1
                refine wpOp_step rfl fun K' hK' => ?_
                rw [if_pos (wanted_plain rfl)]
                unfold Oper.wp
                simp only [execOp]
                go_simp
                exact hK' _ _ ⟨_, rfl, Below.refl _ _, rfl⟩
               | 8, _ =>
                obtain ⟨s0, r0, _⟩ := hw 7 (by omega) (by kernel_rfl)
                have e0 : v 7 = .pointer (some ⟨bl, ol + j * 14, none⟩) := r0
                rw [e0] at s0
                replace s0 : a.tmps[59]? = some (.pointer (some ⟨bl, ol + j * 14, none⟩)) := s0
                refine wpOp_step rfl fun K' hK' => ?_
                rw [if_pos (wanted_plain rfl)]
                unfold Oper.wp
                simp only [execOp]
                go_simp
                exact hK' _ _ ⟨_, rfl, Below.refl _ _, rfl⟩
               | 9, _ =>
                obtain ⟨s0, r0, _⟩ := hw 8 (by omega) (by kernel_rfl)
                have e0 : v 8 = .pointer (some ⟨bl, ol + j * 14 + 2, none⟩) := r0
                rw [e0] at s0
                replace s0 : a.tmps[60]? = some (.pointer (some ⟨bl, ol + j * 14 + 2, none⟩)) := s0
                have cc := (hb.cell (p := ⟨bl, ol + j * 14 + 2, none⟩) HBL.out).trans KP.out
                refine wpOp_step rfl fun K' hK' => ?_
                rw [if_pos (wanted_plain rfl)]
                unfold Oper.wp
                simp only [execOp]
                go_simp
                exact hK' _ _ ⟨_, rfl, Below.refl _ _, rfl⟩
               | 10, _ =>
                exact gw_move rfl (wanted_plain rfl) 5 _ rfl sl5 ⟨_, rfl, Below.refl _ _, rfl⟩
               | 11, _ =>
                obtain ⟨s0, r0, _⟩ := hw 9 (by omega) (by kernel_rfl)
                have e0 : v 9 = .slice Ap N cp := r0
                rw [e0] at s0
                replace s0 : a.tmps[61]? = some (.slice Ap N cp) := s0
                obtain ⟨s1, r1, _⟩ := hw 10 (by omega) (by kernel_rfl)
                have e1 : v 10 = .slice Ao N co := r1
                rw [e1] at s1
                replace s1 : a.tmps[62]? = some (.slice Ao N co) := s1
                refine gw_tt rfl (wanted_plain rfl) 83 61 62 _ _ _ rfl (fun v u w => by go_simp) s0 s1 ?_
                with_reducible refine (BIC.out w9 hb).mono ?_
                rintro e w3 ⟨v3, rfl, h3, hb3⟩
                exact ⟨_, rfl, _, rfl, hb3, Nat.le_trans hb.size hb3.size, h3.more (fun b hb0 => up3 (Below.refl _ V) hb b hb0)⟩
               | 12, _ =>
                obtain ⟨s0, r0, _⟩ := hw 4 (by omega) (by kernel_rfl)
                have e0 : v 4 = .agg #[.int .i64 f.2.2.kd, .string f.2.2.nm.1, .string f.2.2.nm.2, x0, x1, x2, x3, x4, x5, x6, .slice A3 f.2.2.args.length c3] := r0
                rw [e0] at s0
                replace s0 : a.tmps[56]? = some (.agg #[.int .i64 f.2.2.kd, .string f.2.2.nm.1, .string f.2.2.nm.2, x0, x1, x2, x3, x4, x5, x6, .slice A3 f.2.2.args.length c3]) := s0
                obtain ⟨s1, r1, b1⟩ := hw 11 (by omega) (by kernel_rfl)
                obtain ⟨hz1, ha1⟩ := r1
                obtain ⟨va1, e1⟩ : ∃ x, v 11 = x := ⟨_, rfl⟩
                rw [e1] at ha1
                rw [e1] at s1
                refine gw_tt rfl (wanted_plain rfl) 35 56 63 _ _ _ rfl (fun v u w => by go_simp) s0 s1 ?_
                with_reducible refine (SUC.out w9 hb _ ha1).mono ?_
                rintro e w3 ⟨cs3, rfl, h3, hb3⟩
                exact ⟨_, rfl, _, rfl, hb3, Nat.le_trans hb.size hb3.size, cs3, rfl, h3.more (fun b hb0 => upto_two hb.size hb3.size b hb0)⟩
               | k + 13, h => exact absurd h (by omega)
              case done =>
               intro a w9 v lo hi' hdef hsz hoth hb hj hap
               obtain ⟨_, ⟨hz12, cs4, hv12, h4⟩, hlo12, hhi12⟩ := hj 12 (by omega)
               have ha := eq_puts hdef hsz hoth (fun i hi => (hj i hi).1)
               subst ha
               clear hj hoth hdef hsz hap
               simp only [puts, List.getD_cons_zero, List.getD_cons_succ, hv12]
               generalize v 0 = v0
               generalize v 1 = v1
               generalize v 2 = v2
               generalize v 3 = v3
               generalize v 4 = v4
               generalize v 5 = v5
               generalize v 6 = v6
               generalize v 7 = v7
               generalize v 8 = v8
               generalize v 9 = v9
               generalize v 10 = v10
               generalize v 11 = v11
               clear hv12
               simp only [Act.put, List.setIfInBounds_toArray, List.set_cons_zero, List.set_cons_succ]
               show wpList _ _ _ [_] _ _
               have O4 := hI h4.o11
               have HB4 := hI ((H4X.out.keep HVB.out).keep hb)
               have HBX9 : Below w.heap.size w w9 := (HBX.out.trans (HVB.out.mono HBX.out.size)).trans (hb.mono (HBX.out.trans (HVB.out.mono HBX.out.size)).size)
               have H4Z : TmAt w9 (Upto w w9 S) (instT l t) cs4 := by
                rw [HZZ.out]
                exact h4.more (HUV.out w9 hb.size)
               have HR : Hid (RetT w S (instT l t) (.returned (vTm cs4)) (w9.setRow (w.heap.size + 1) cs4.toArray)) := ⟨_, rfl, TmAt.boxed H4Z HB4.out.nb _, below_setRowO HBX9 (by omega) _⟩
               clear h4 hb BIC SUC H4Z HBX9
               go_wp2_with ((with_reducible refine storeTb (cs := cs4) (.tmp 4) (.tmp 64) ?_ ?_ ?_ ?_ HB4.out ?_ ?_ ?_ ?_); rfl; rfl; rfl; rfl; rfl; exact O4.out.1; exact O4.out.2)
               exact retTb rfl rfl (HB4.out.set _) O4.out.1 HR.out
            · have hne : ((f.2.1.length : Int) != (N : Int)) = true := by rw [bne_iff_ne]; omega
              have HAPP : Hid (instT l t = .app t.nm os) := (show _ = _ by
               rw [HINST.out]
               have e : okF N (some f) = none := if_neg hNN
               rw [e])
              clear hnsV htbV k0 k1 k2 k3 k4 k5 k6 k7 k8 k9 k10 hfm
              generalize f.2.1.length = pn at *
              have NB1 := hI (TB.cell (H2X.out.keep VB) 1 _ rfl)
              have NB2 := hI (TB.cell (H2X.out.keep VB) 2 _ rfl)
              have j1 := NB1.out
              have j2 := NB2.out
              have AC : Hid (Calls Tryz.prog 23 #[.agg #[.string t.nm.1, .string t.nm.2], .slice Ao N co] V (RetT V S2 (.app t.nm os))) := appR t.nm os _ V S2 (HS2X.out.later VB.size) (by
               have h := HTS.out.below HS2X.out VB
               rw [HN.out] at h
               exact h)
              have H4V := hI (H4X.out.keep VB)
              have HBV : Hid (Below w.heap.size w V) := HBX.out.trans (VB.mono HBX.out.size)
              have HUV := hI (HUP.out V VB.size)
              clear NB1 NB2
              go_wp2_with fail
              refine AC.out.mono ?_
              rintro e w5 ⟨cs5, rfl, h5, hb5⟩
              have H4' := hI (H4V.out.keep hb5)
              have O5 := hI h5.o11
              have hA5 : Below w.heap.size w w5 := HBV.out.trans (hb5.mono HBV.out.size)
              have h5' : TmAt w5 (Upto w w5 S) (instT l t) cs5 := by
               rw [HAPP.out]
               exact h5.more (HUV.out w5 hb5.size)
              have HR : Hid (RetT w S (instT l t) (.returned (vTm cs5)) (w5.setRow (w.heap.size + 1) cs5.toArray)) := ⟨_, rfl, TmAt.boxed h5' H4'.out.nb _, below_setRowO hA5 (by omega) _⟩
              clear h5 h5' hb5 hA5 AC j1 j2
              go_wp2_with ((with_reducible refine storeTb (cs := cs5) (.tmp 4) (.tmp 68) ?_ ?_ ?_ ?_ H4'.out ?_ ?_ ?_ ?_); rfl; rfl; rfl; rfl; rfl; exact O5.out.1; exact O5.out.2)
              exact retTb rfl rfl (H4'.out.set _) O5.out.1 HR.out
        · have hjM2 : j = M := by omega
          have hn3 : ¬ (j : Int) < M := by omega
          have hR : RF = none := by
           rw [← hf, hjM2, ← HM.out, List.drop_length]; rfl
          subst hR
          have HAPP : Hid (instT l t = .app t.nm os) := (show _ = _ by rw [HINST.out]; rfl)
          clear hf hltj
          have NB1 := hI (TB.cell (H2X.out.keep wvB) 1 _ rfl)
          have NB2 := hI (TB.cell (H2X.out.keep wvB) 2 _ rfl)
          have j1 := NB1.out
          have j2 := NB2.out
          have AC : Hid (Calls Tryz.prog 23 #[.agg #[.string t.nm.1, .string t.nm.2], .slice Ao N co] wv (RetT wv S2 (.app t.nm os))) := appR t.nm os _ wv S2 (HS2X.out.later wvB.size) (by
           have h := HTS.out.below HS2X.out wvB
           rw [HN.out] at h
           exact h)
          have H4V := hI (H4X.out.keep wvB)
          have HBV : Hid (Below w.heap.size w wv) := HBX.out.trans (wvB.mono HBX.out.size)
          have HUV := hI (HUP.out wv wvB.size)
          clear NB1 NB2
          go_wp2_with fail
          refine AC.out.mono ?_
          rintro e w5 ⟨cs5, rfl, h5, hb5⟩
          have H4' := hI (H4V.out.keep hb5)
          have O5 := hI h5.o11
          have hA5 : Below w.heap.size w w5 := HBV.out.trans (hb5.mono HBV.out.size)
          have h5' : TmAt w5 (Upto w w5 S) (instT l t) cs5 := by
           rw [HAPP.out]
           exact h5.more (HUV.out w5 hb5.size)
          have HR : Hid (RetT w S (instT l t) (.returned (vTm cs5)) (w5.setRow (w.heap.size + 1) cs5.toArray)) := ⟨_, rfl, TmAt.boxed h5' H4'.out.nb _, below_setRowO hA5 (by omega) _⟩
          clear h5 h5' hb5 hA5 AC j1 j2
          go_wp2_with ((with_reducible refine storeTb (cs := cs5) (.tmp 4) (.tmp 68) ?_ ?_ ?_ ?_ H4'.out ?_ ?_ ?_ ?_); rfl; rfl; rfl; rfl; rfl; exact O5.out.1; exact O5.out.2)
          exact retTb rfl rfl (H4'.out.set _) O5.out.1 HR.out
  · have hT1 : TmAt Y (Upto w Y S) t [.int .i64 t.kd, .string t.nm.1, .string t.nm.2, x0, x1, x2, x3, x4, x5, x6, .slice A t.args.length c] := HT.out.more (fun b hb => .inl hb)
    have hfl : instT l t = t := by
     cases t with
     | var s => unfold instT; rfl
     | con o => unfold instT; rfl
     | app s l => exact absurd rfl hk
    have HR : Hid (RetT w S (instT l t) (.returned (vTm [.int .i64 t.kd, .string t.nm.1, .string t.nm.2, x0, x1, x2, x3, x4, x5, x6, .slice A t.args.length c])) (Y.setRow (w.heap.size + 1) #[.int .i64 t.kd, .string t.nm.1, .string t.nm.2, x0, x1, x2, x3, x4, x5, x6, .slice A t.args.length c])) := (show RetT _ _ _ _ _ by rw [hfl]; exact ⟨_, rfl, TmAt.boxed hT1 H4.out.nb _, below_setRowO HA.out (by omega) _⟩)
    have hkn : (t.kd != 3) = true := by rw [bne_iff_ne]; exact hk
    clear hT1 hfl
    go_wp2_with (first | ((with_reducible refine loadTb (cs := [.int .i64 t.kd, .string t.nm.1, .string t.nm.2, x0, x1, x2, x3, x4, x5, x6, .slice A t.args.length c]) (.tmp 2) ?_ ?_ ?_ H2.out ?_ ?_); rfl; rfl; rfl; rfl) | ((with_reducible refine storeTb (cs := [.int .i64 t.kd, .string t.nm.1, .string t.nm.2, x0, x1, x2, x3, x4, x5, x6, .slice A t.args.length c]) (.tmp 4) (.tmp 11) ?_ ?_ ?_ ?_ H4.out ?_ ?_ ?_ ?_); rfl; rfl; rfl; rfl; rfl; rfl; exact OT.out.2))
    exact retTb rfl rfl (H4.out.set _) rfl HR.out
def Ad (w : World) (o : Ob) (b k : Nat) (p : Value) : Prop := At w (Has w) o b k p
theorem Ad.below {w w' : World} {o : Ob} {b k : Nat} {p : Value} (h : Ad w o b k p) (hb : Below w.heap.size w w') : Ad w' o b k p :=
 (At.below h (In.has w) hb).more fun b hb' => Nat.lt_of_lt_of_le hb' hb.size
theorem Ad.hd {w : World} {o : Ob} {b k : Nat} {p : Value} (h : Ad w o b k p) : Hd w o p := h.2.2
theorem Hd.cons {w : World} {a d : Ob} {p : Value} (h : Hd w (.cons a d) p) : ∃ b o c pa pd, p = .slice (some ⟨b, o, none⟩) 2 c ∧ 2 ≤ c ∧ Ad w a b o pa ∧ Ad w d b (o + 7) pd := Pair.parts h
theorem loadA {ops : Array Oper} {rest : List Oper} {o : Oper} {a : Act} {w : World} {Q : Exit → Act → World → Prop} {g k : Nat} {b : Ob} {p : Value} (ho : ∃ x, o.op = .load 33 x ∧ a.eval x = .pointer (some ⟨g, k, none⟩)) (hgd : o.guard = none)
 (hb : Ad w b g k p)
 (h : wpList Tryz.prog ops Q rest (a.put o.dst (vO b p)) w) : wpList Tryz.prog ops Q (o :: rest) a w := by
 obtain ⟨x, ho, hx⟩ := ho
 exact wpList_load_mid hgd 33 x ho g k hx (cellsO b p) _ hb.2.1 Tryz.underlying33 rfl (by rw [cellsO_length]; kernel_rfl) h
theorem loadAG {ops : Array Oper} {rest : List Oper} {o : Oper} {a : Act} {w : World} {Q : Exit → Act → World → Prop} {g k : Nat} {b : Ob} {p : Value} (ho : ∃ x, o.op = .load 33 x ∧ a.eval x = .pointer (some ⟨g, k, none⟩)) (hw : Region.wanted o (yielded ops a.tmps) = true)
 (hb : Ad w b g k p)
 (h : wpList Tryz.prog ops Q rest (a.put o.dst (vO b p)) w) : wpList Tryz.prog ops Q (o :: rest) a w := by
 obtain ⟨x, ho, hx⟩ := ho
 unfold wpList
 rw [if_pos hw]
 exact .inl (wp_load_mid 33 x ho g k hx (cellsO b p) _ hb.2.1 Tryz.underlying33 rfl (by rw [cellsO_length]; kernel_rfl) h)
theorem countFlat (k : Int) (s1 s2 s3 s4 s5 : ByteArray) (m : Int) (w : World) :
 Calls Tryz.prog 138 #[.agg #[.int .i64 k, .string s1, .string s2, .string s3, .string s4, .string s5, .slice none 0 0], .int .i64 m] w (RetI w 1) := by
 go_enter Tryz.func138, Tryz.ntmps138
 go_wp2
 go_ret
 exact ⟨rfl, aO_below w _⟩
theorem countCons (a d : Ob) (p : Value) (m x y : Int) (w : World) (hx : 1 ≤ x) (hy : 1 ≤ y) (hxy : 1 + x + y ≤ m) (hm : m ≤ 3001) (hp : Hd w (.cons a d) p)
 (ca : ∀ X q, Hd X a q → Calls Tryz.prog 138 #[vO a q, .int .i64 (m - 1)] X (RetI X x)) (cd : ∀ X q, Hd X d q → Calls Tryz.prog 138 #[vO d q, .int .i64 (m - (1 + x))] X (RetI X y)) :
 Calls Tryz.prog 138 #[vO (.cons a d) p, .int .i64 m] w (RetI w (1 + x + y)) := by
 obtain ⟨b1, o1, n1, pa, pd, rfl, hn1, hA, hD⟩ := hp.cons
 have CA := hI ca
 have CD := hI cd
 clear ca cd
 have HA := hI hA
 have HD := hI hD
 clear hA hD
 have ea : cellsO (.cons a d) (.slice (some ⟨b1, o1, none⟩) 2 n1) = [.int .i64 4, .string ⟨#[]⟩, .string ⟨#[]⟩, .string ⟨#[]⟩, .string ⟨#[]⟩, .string ⟨#[]⟩, (.slice (some ⟨b1, o1, none⟩) 2 n1)] := rfl
 have T := Bx1.new w #[.int .i64 4, .string ⟨#[]⟩, .string ⟨#[]⟩, .string ⟨#[]⟩, .string ⟨#[]⟩, .string ⟨#[]⟩, (.slice (some ⟨b1, o1, none⟩) 2 n1)]
 rw [vO_cells ea]
 go_enter Tryz.func138, Tryz.ntmps138
 go_upto_region 1 with fail
 generalize w.alloc (.cells #[.int .i64 4, .string ⟨#[]⟩, .string ⟨#[]⟩, .string ⟨#[]⟩, .string ⟨#[]⟩, .string ⟨#[]⟩, (.slice (some ⟨b1, o1, none⟩) 2 n1)] 33) = W at T ⊢
 have B0 : Hid (Bx W (w.heap.size) (cellsO (.cons a d) (.slice (some ⟨b1, o1, none⟩) 2 n1)).toArray) := by rw [ea]; exact T.b0
 have K0 := hI (hp.below T.bel)
 have HW := hI T.bel
 try rw [← vO_cells ea]
 clear T ea hp
 replace HA := hI (HA.out.below HW.out)
 replace HD := hI (HD.out.below HW.out)
 obtain ⟨m0, _, _, _, _, _, m6⟩ := Bx.c B0.out
 have hm1 : ¬ m ≤ 1 := by omega
 have hm2 : 3 ≤ m := by omega
 go_wp2_with (first | (with_reducible refine lG (.tmp 2) B0.out ?_) | ((with_reducible refine loadA ?_ ?_ HA.out ?_); exact ⟨_, rfl, rfl⟩; rfl) | ((with_reducible refine loadAG ?_ ?_ HA.out ?_); exact ⟨_, rfl, rfl⟩; rfl) | ((with_reducible refine loadA ?_ ?_ HD.out ?_); exact ⟨_, rfl, rfl⟩; rfl) | ((with_reducible refine loadAG ?_ ?_ HD.out ?_); exact ⟨_, rfl, rfl⟩; rfl))
 with_reducible refine (CA.out _ _ HA.out.hd).mono ?_
 rintro e w1 ⟨rfl, hb⟩
 replace B0 := kB B0 hb
 replace K0 := kH K0 hb
 replace HW := kW HW hb
 replace HA := hI (HA.out.below hb)
 replace HD := hI (HD.out.below hb)
 clear hb
 obtain ⟨m0, _, _, _, _, _, m6⟩ := Bx.c B0.out
 have hn2 : ¬ m ≤ 1 + x := by omega
 go_wp2_with (first | (with_reducible refine lG (.tmp 2) B0.out ?_) | ((with_reducible refine loadA ?_ ?_ HA.out ?_); exact ⟨_, rfl, rfl⟩; rfl) | ((with_reducible refine loadAG ?_ ?_ HA.out ?_); exact ⟨_, rfl, rfl⟩; rfl) | ((with_reducible refine loadA ?_ ?_ HD.out ?_); exact ⟨_, rfl, rfl⟩; rfl) | ((with_reducible refine loadAG ?_ ?_ HD.out ?_); exact ⟨_, rfl, rfl⟩; rfl))
 with_reducible refine (CD.out _ _ HD.out.hd).mono ?_
 rintro e w2 ⟨rfl, hb⟩
 replace B0 := kB B0 hb
 replace K0 := kH K0 hb
 replace HW := kW HW hb
 replace HA := hI (HA.out.below hb)
 replace HD := hI (HD.out.below hb)
 clear hb
 go_wp2_with (first | (with_reducible refine lG (.tmp 2) B0.out ?_) | ((with_reducible refine loadA ?_ ?_ HA.out ?_); exact ⟨_, rfl, rfl⟩; rfl) | ((with_reducible refine loadAG ?_ ?_ HA.out ?_); exact ⟨_, rfl, rfl⟩; rfl) | ((with_reducible refine loadA ?_ ?_ HD.out ?_); exact ⟨_, rfl, rfl⟩; rfl) | ((with_reducible refine loadAG ?_ ?_ HD.out ?_); exact ⟨_, rfl, rfl⟩; rfl))
 go_ret
 exact ⟨ret_int (by omega), HW.out⟩
theorem countR : ∀ (o : Ob) (p : Value) (m : Int) (w : World), (o.nodes : Int) ≤ m → m ≤ 3001 → Hd w o p → Calls Tryz.prog 138 #[vO o p, .int .i64 m] w (RetI w (o.nodes : Int))
 | .num q, p, m, w, h, h', hp => by obtain rfl := hp.flat rfl; exact countFlat _ _ _ _ _ _ m w
 | .str s, p, m, w, h, h', hp => by obtain rfl := hp.flat rfl; exact countFlat _ _ _ _ _ _ m w
 | .sym x y, p, m, w, h, h', hp => by obtain rfl := hp.flat rfl; exact countFlat _ _ _ _ _ _ m w
 | .cons a d, p, m, w, h, h', hp => by
  have e : ((Ob.cons a d).nodes : Int) = 1 + (a.nodes : Int) + (d.nodes : Int) := by show ((1 + a.nodes + d.nodes : Nat) : Int) = _; omega
  have ha := a.nodes_pos
  have hd := d.nodes_pos
  rw [e] at h ⊢
  exact countCons a d p m _ _ w (by omega) (by omega) h h' hp (fun X q hq => countR a q (m - 1) X (by omega) (by omega) hq) (fun X q hq => countR d q _ X (by omega) (by omega) hq)
theorem nodesR (o : Ob) (p : Value) (w : World) (hn : o.nodes ≤ 3000) (hp : Hd w o p) :
 Calls Tryz.prog 109 #[vO o p] w (RetI w (o.nodes : Int)) := by
 obtain ⟨a0, a1, a2, a3, a4, a5, ea⟩ := cells7 (o) p
 have T := Bx1.new w #[a0, a1, a2, a3, a4, a5, p]
 rw [vO_cells ea]
 go_enter Tryz.func109, Tryz.ntmps109
 go_wp2_with fail
 generalize w.alloc (.cells #[a0, a1, a2, a3, a4, a5, p] 33) = W at T ⊢
 have B0 : Hid (Bx W (w.heap.size) (cellsO (o) p).toArray) := by rw [ea]; exact T.b0
 have K0 := hI (hp.below T.bel)
 have HW := hI T.bel
 try rw [← vO_cells ea]
 clear T ea hp
 with_reducible refine (countR o p 3001 _ (by omega) (by omega) K0.out).mono ?_
 rintro e w1 ⟨rfl, hb⟩
 replace B0 := kB B0 hb
 replace K0 := kH K0 hb
 replace HW := kW HW hb
 clear hb
 go_wp2_with (with_reducible refine lG (.tmp 1) B0.out ?_)
 go_ret
 exact ⟨rfl, HW.out⟩
mutual
def Tm.cN : Tm → Prop
 | .var _ => True
 | .con o => o.nodes ≤ 3000
 | .app _ l => l.length ≤ 3000 ∧ Tm.cNs l
def Tm.cNs : List Tm → Prop
 | [] => True
 | t :: l => t.cN ∧ Tm.cNs l
end
theorem Tm.cNs_mem : ∀ {l : List Tm}, Tm.cNs l ↔ ∀ t ∈ l, t.cN
 | [] => by simp [Tm.cNs]
 | x :: l => by
  unfold Tm.cNs
  rw [Tm.cNs_mem (l := l)]
  simp
theorem Tm.cN_args {t : Tm} (h : t.cN) : ∀ x ∈ t.args, x.cN := by
 cases t with
 | var s => intro x hx; simp [Tm.args] at hx
 | con o => intro x hx; simp [Tm.args] at hx
 | app s l => unfold Tm.cN at h; exact Tm.cNs_mem.1 h.2
theorem Tm.cN_len {t : Tm} (h : t.cN) : t.args.length ≤ 3000 := by
 cases t with
 | var s => simp [Tm.args]
 | con o => simp [Tm.args]
 | app s l => unfold Tm.cN at h; exact h.1
theorem cN_of_nodes : ∀ t : Tm, t.nodes ≤ 3000 → t.cN := by
 intro t
 induction t using Tm.ind with
 | hv s => intro _; unfold Tm.cN; trivial
 | hc o => intro h; unfold Tm.cN; exact h
 | ha s l ih =>
  intro h
  unfold Tm.cN
  unfold Tm.nodes at h
  refine ⟨by have := Tm.nodesL_len l; omega, ?_⟩
  rw [Tm.cNs_mem]
  intro x hx
  refine ih x hx ?_
  have := Tm.nodes_mem hx
  omega
theorem findA_mem8 : ∀ {s : List (Nm × Tm)} {x : Nm} {t : Tm}, findA s x = some t → ∃ a ∈ s, a.2 = t
 | a :: s, x, t, h => by
  unfold findA at h
  split at h
  · injection h with h
    exact ⟨a, by simp, h⟩
  · obtain ⟨b, hb, e⟩ := findA_mem8 h
    exact ⟨b, by simp [hb], e⟩
theorem subT_cN {s : List (Nm × Tm)} (hs : ∀ a ∈ s, a.2.cN) : ∀ t : Tm, t.cN → (subT s t).cN := by
 intro t
 induction t using Tm.ind with
 | hv x =>
  intro _
  unfold subT
  cases h : findA s x with
  | none => unfold Tm.cN; trivial
  | some t =>
   obtain ⟨a, ha, rfl⟩ := findA_mem8 h
   exact hs a ha
 | hc o => intro h; unfold subT; exact h
 | ha f l ih =>
  intro h
  unfold subT
  unfold Tm.cN at h ⊢
  rw [Tm.cNs_mem] at h ⊢
  rw [subTs_map]
  refine ⟨by rw [List.length_map]; exact h.1, ?_⟩
  intro x hx
  obtain ⟨y, hy, rfl⟩ := List.mem_map.1 hx
  exact ih y hy (h.2 y hy)
theorem bindF_mem : ∀ {ps : List Nm} {ts : List Tm} {a : Nm × Tm}, a ∈ bindF ps ts → a.2 ∈ ts
 | p :: ps, t :: ts, a, h => by
  have h' : a ∈ (p, t) :: bindF ps ts := h
  rcases List.mem_cons.1 h' with rfl | h'
  · simp
  · exact List.mem_cons_of_mem _ (bindF_mem h')
 | [], _, a, h => by cases h
 | _ :: _, [], a, h => by cases h
theorem instT_cN {l : List Lm} (hl : ∀ f ∈ l, f.2.2.cN) : ∀ t : Tm, t.cN → (instT l t).cN := by
 intro t
 induction t using Tm.indA with
 | h t ih =>
  intro h
  by_cases hk : t.kd = 3
  · have hmap : ∀ x ∈ t.args.map (instT l), x.cN := by
     intro x hx
     obtain ⟨y, hy, rfl⟩ := List.mem_map.1 hx
     exact ih y hy (Tm.cN_args h y hy)
    rw [instT_app hk]
    cases ho : okF t.args.length (findF l t.nm) with
    | none =>
     show (Tm.app t.nm _).cN
     unfold Tm.cN
     rw [Tm.cNs_mem]
     exact ⟨by rw [List.length_map]; exact Tm.cN_len h, hmap⟩
    | some f =>
     have hm : replO l t = some f := by
      cases t with
      | var s => exact absurd hk (by simp [Tm.kd])
      | con o => exact absurd hk (by simp [Tm.kd])
      | app s ts => exact (replF_eq _ _ _).trans ho
     show (subT _ f.2.2).cN
     refine subT_cN (fun a ha => hmap _ (bindF_mem ha)) _ (hl f (replO_len hm).1)
  · have hfl : instT l t = t := by
     cases t with
     | var s => unfold instT; rfl
     | con o => unfold instT; rfl
     | app s l => exact absurd rfl hk
    rw [hfl]
    exact h
theorem nodesL_take {l : List Tm} {i : Nat} (hi : i < l.length) : Tm.nodesL (l.take (i + 1)) = Tm.nodesL (l.take i) + l[i].nodes := by
 have h : ∀ (a b : List Tm), Tm.nodesL (a ++ b) = Tm.nodesL a + Tm.nodesL b := by
  intro a b
  induction a with
  | nil => simp [Tm.nodesL]
  | cons x a ih => simp only [List.cons_append, Tm.nodesL, ih]; omega
 rw [List.take_succ_eq_append_getElem hi, h]
 simp [Tm.nodesL]
theorem nodesL_take_le (l : List Tm) (i : Nat) : Tm.nodesL (l.take i) ≤ Tm.nodesL l := by
 have h : ∀ (a b : List Tm), Tm.nodesL (a ++ b) = Tm.nodesL a + Tm.nodesL b := by
  intro a b
  induction a with
  | nil => simp [Tm.nodesL]
  | cons x a ih => simp only [List.cons_append, Tm.nodesL, ih]; omega
 have e := h (l.take i) (l.drop i)
 rw [List.take_append_drop] at e
 omega
theorem nodes_flat {t : Tm} (hk : t.kd ≠ 2) : t.nodes = 1 + Tm.nodesL t.args := by
 cases t with
 | var s => rfl
 | con o => exact absurd rfl hk
 | app s l => rfl
theorem countT8 : ∀ (t : Tm) (lim : Nat) (w : World) (cs : List Value) (S : Nat → Prop), 1 ≤ lim → lim ≤ 3001 → t.cN → In S w → TmAt w S t cs →
 Calls Tryz.prog 84 #[vTm cs, .int .i64 (lim : Int)] w (RetI w ((min t.nodes lim : Nat) : Int)) := by
 intro t
 induction t using Tm.indA with
 | h t ih =>
  intro lim w cs S hl1 hl2 hcn hS h
  have h' := h
  obtain ⟨x0, x1, x2, x3, x4, x5, x6, A, c, rfl, hva, ha⟩ := h'.eleven
  have hA := below_alT w (.cells #[.int .i64 t.kd, .string t.nm.1, .string t.nm.2, x0, x1, x2, x3, x4, x5, x6, .slice A t.args.length c] 35)
  have B2 : Hid (TB (w.alloc (.cells #[.int .i64 t.kd, .string t.nm.1, .string t.nm.2, x0, x1, x2, x3, x4, x5, x6, .slice A t.args.length c] 35)) w.heap.size [.int .i64 t.kd, .string t.nm.1, .string t.nm.2, x0, x1, x2, x3, x4, x5, x6, .slice A t.args.length c]) := TB.new w _
  have HT : Hid (TmAt (w.alloc (.cells #[.int .i64 t.kd, .string t.nm.1, .string t.nm.2, x0, x1, x2, x3, x4, x5, x6, .slice A t.args.length c] 35)) S t [.int .i64 t.kd, .string t.nm.1, .string t.nm.2, x0, x1, x2, x3, x4, x5, x6, .slice A t.args.length c]) := h.below hS hA
  have OT := hI h.o11
  have HA := hI hA
  have HSW : Hid (In S (w.alloc (.cells #[.int .i64 t.kd, .string t.nm.1, .string t.nm.2, x0, x1, x2, x3, x4, x5, x6, .slice A t.args.length c] 35))) := hS.later hA.size
  have k0 := TB.cell B2.out 0 _ rfl
  have k3 := TB.cell B2.out 3 _ rfl
  have k4 := TB.cell B2.out 4 _ rfl
  have k5 := TB.cell B2.out 5 _ rfl
  have k6 := TB.cell B2.out 6 _ rfl
  have k7 := TB.cell B2.out 7 _ rfl
  have k8 := TB.cell B2.out 8 _ rfl
  have k9 := TB.cell B2.out 9 _ rfl
  unfold vTm
  go_enter Tryz.func84, Tryz.ntmps84
  go_upto_region 1 with fail
  generalize (w.alloc (.cells #[.int .i64 t.kd, .string t.nm.1, .string t.nm.2, x0, x1, x2, x3, x4, x5, x6, .slice A t.args.length c] 35)) = Y at *
  by_cases hk : t.kd = 2
  · obtain ⟨o, ho⟩ : ∃ o, t = .con o := by
     cases t with
     | var s => exact absurd hk (by simp [Tm.kd])
     | con o => exact ⟨o, rfl⟩
     | app s l => exact absurd hk (by simp [Tm.kd])
    obtain ⟨p, ev, hp⟩ : ∃ p, [x0, x1, x2, x3, x4, x5, x6] = cellsO o p ∧ Pair w S o p := by rw [ho] at hva; exact hva
    have hno : o.nodes ≤ 3000 := by rw [ho] at hcn; unfold Tm.cN at hcn; exact hcn
    have NC0 := nodesR o p Y hno ((hp.below hS hA).hd HSW.out)
    unfold vO at NC0
    rw [← ev] at NC0
    have NC := hI NC0
    have k0' : Y.cell? ⟨w.heap.size, 0, none⟩ = some (Value.int .i64 2) := by rw [← hk]; exact k0
    have hnn : t.nodes = o.nodes := by rw [ho]; rfl
    generalize o.nodes = N at *
    have HNN := hI hnn
    clear h hS hA NC0 ev hp hcn k0 ih ho hnn
    go_wp2_with fail
    refine NC.out.mono ?_
    rintro e w2 ⟨rfl, hb2⟩
    have HW : Hid (Below w.heap.size w w2) := HA.out.trans (hb2.mono HA.out.size)
    clear hb2 NC k3 k4 k5 k6 k7 k8 k9 k0'
    by_cases hmn : (N : Int) ≤ (lim : Int)
    · go_wp2_with fail
      go_ret
      exact ⟨ret_int (by have := HNN.out; omega), HW.out⟩
    · go_wp2_with fail
      go_ret
      exact ⟨ret_int (by have := HNN.out; omega), HW.out⟩
  · have hkn : (t.kd == 2) = false := by rw [beq_eq_false_iff_ne]; exact hk
    have HNF := hI (nodes_flat hk)
    have HCA := hI (Tm.cN_args hcn)
    have hcl := Tm.cN_len hcn
    have IH := hI ih
    have AR : Hid (Calls Tryz.prog 74 #[.agg #[.int .i64 t.kd, .string t.nm.1, .string t.nm.2, x0, x1, x2, x3, x4, x5, x6, .slice A t.args.length c]] Y (RetAr Y S t.args)) := argsR t _ Y S HT.out
    have hlim1 : (1 : Int) ≤ (lim : Int) := by omega
    have hlim2 : (lim : Int) ≤ 3001 := by omega
    clear h hS hA hva ha hcn ih k3 k4 k5 k6 k7 k8 k9
    go_wp2_with ((with_reducible refine loadTb (cs := [.int .i64 t.kd, .string t.nm.1, .string t.nm.2, x0, x1, x2, x3, x4, x5, x6, .slice A t.args.length c]) (.tmp 2) ?_ ?_ ?_ B2.out ?_ ?_); rfl; rfl; rfl; rfl)
    refine AR.out.mono ?_
    rintro e w2 ⟨A9, c9, rfl, ha9, hb2⟩
    have HAG : Hid (ArgsAt w2 S t.args A9 c9) := ha9.below HSW.out hb2
    have HS2 : Hid (In S w2) := HSW.out.later hb2.size
    have HW : Hid (Below w.heap.size w w2) := HA.out.trans (hb2.mono HA.out.size)
    have hc9 := ha9.1
    obtain ⟨L, hL⟩ : ∃ L, t.args.length = L := ⟨_, rfl⟩
    have HL := hI hL
    rw [hL] at hc9 hcl ⊢
    have h0 : Hid (Below w2.heap.size w2 w2) := Below.refl _ _
    have e0 : min (1 + Tm.nodesL (t.args.take 0)) lim = 1 := by
     have : Tm.nodesL (t.args.take 0) = 0 := rfl
     omega
    have E0 := hI e0
    clear hb2 AR ha9 hL k0 hkn e0 B2 HT
    go_wp2_with fail
    go_loopw [5, 7] (fun u v wr => ∃ (i : Nat), i ≤ L ∧ v = .int .i64 (i : Int) ∧ u = .int .i64 ((min (1 + Tm.nodesL (t.args.take i)) lim : Nat) : Int) ∧ Hid (Below w2.heap.size w2 wr)) (fun _ v _ => L - (intOf v).toNat)
    case atStart => exact ⟨0, Nat.zero_le _, rfl, by rw [E0.out]; rfl, h0⟩
    case round =>
     clear h0
     obtain ⟨i, hiL, rfl, rfl, hE⟩ := hrel
     obtain ⟨wo, rfl⟩ : ∃ wo : World, wo = wr := ⟨_, rfl⟩
     have hbel := hE.out
     have HBEL := hI hbel
     obtain ⟨n, hn⟩ : ∃ n, min (1 + Tm.nodesL (t.args.take i)) lim = n := ⟨_, rfl⟩
     rw [hn]
     have hnl : n ≤ lim := by omega
     by_cases hlt : i < L
     · by_cases hnn : (n : Int) < (lim : Int)
       · have hil : i < t.args.length := by rw [HL.out]; exact hlt
         obtain ⟨ba, oa, cx, rfl, hP⟩ := HAG.out.arg hil
         have hP' := hP.below HS2.out hbel
         have htm : t.args[i] ∈ t.args := List.getElem_mem hil
         have hnt := nodesL_take hil
         generalize t.args[i] = x at *
         obtain ⟨z0, z1, z2, z3, z4, z5, z6, A5, c5, rfl, hvx, har2, k0, k1, k2, k3, k4, k5, k6, k7, k8, k9, k10⟩ := hP'.cells
         obtain ⟨d, hd⟩ : ∃ d : Nat, lim - n = d := ⟨_, rfl⟩
         have hdi : (lim : Int) - (n : Int) = (d : Int) := by omega
         have CALL : Hid (Calls Tryz.prog 84 #[.agg #[.int .i64 x.kd, .string x.nm.1, .string x.nm.2, z0, z1, z2, z3, z4, z5, z6, .slice A5 x.args.length c5], .int .i64 (d : Int)] wo (RetI wo ((min x.nodes d : Nat) : Int))) := IH.out x htm d wo _ S (by omega) (by omega) (HCA.out x htm) (HS2.out.later hbel.size) hP'.2.1
         obtain ⟨m, hm⟩ : ∃ m, min x.nodes d = m := ⟨_, rfl⟩
         rw [hm] at CALL
         have HNX : Hid (min (1 + Tm.nodesL (t.args.take (i + 1))) lim = n + m) := (show _ = _ by rw [hnt]; omega)
         have hmd : m ≤ d := by omega
         clear hE hbel hP hP' htm hnt hvx har2 hn IH hm hd
         have hd3 : (d : Int) ≤ 3001 := by omega
         have hsub : (lim : Int) - (n : Int) = (d : Int) := hdi
         go_wp2_with fail
         refine CALL.out.mono ?_
         rintro e w3 ⟨rfl, hb3⟩
         have hst : Hid (Below w2.heap.size w2 w3) := chain2 HBEL.out hb3 (Nat.le_refl _)
         clear hb3 CALL HBEL k0 k1 k2 k3 k4 k5 k6 k7 k8 k9 k10
         go_wp2_with fail
         go_roundw
         case rel => exact ⟨i + 1, by omega, by go_num, by rw [HNX.out]; go_num, hst⟩
         case measure => simp [intOf]; omega
       · have HR : Hid (min t.nodes lim = n) := (show _ = _ by
          rw [HNF.out]
          have := nodesL_take_le t.args i
          omega)
         have HWo : Hid (Below w.heap.size w wo) := HW.out.trans (hbel.mono HW.out.size)
         clear hE hbel hn HBEL HW
         go_wp2_with fail
         go_ret
         exact ⟨ret_int (by have := HR.out; omega), HWo.out⟩
     · have hiL2 : i = L := by omega
       have HR : Hid (min t.nodes lim = n) := (show _ = _ by
        rw [HNF.out, ← hn, hiL2, ← HL.out, List.take_length])
       have HWo : Hid (Below w.heap.size w wo) := HW.out.trans (hbel.mono HW.out.size)
       have hn2 : ¬ (i : Int) < L := by omega
       clear hE hbel hn HBEL HW
       go_wp2_with fail
       go_ret
       exact ⟨ret_int (by have := HR.out; omega), HWo.out⟩
theorem nodesT8 (t : Tm) (w : World) (cs : List Value) (S : Nat → Prop) (hcn : t.cN) (hS : In S w) (h : TmAt w S t cs) : Calls Tryz.prog 49 #[vTm cs] w (RetI w ((min t.nodes 3001 : Nat) : Int)) := by
 have h' := h
 obtain ⟨x0, x1, x2, x3, x4, x5, x6, A, c, rfl, hva, ha⟩ := h'.eleven
 have hA := below_alT w (.cells #[.int .i64 t.kd, .string t.nm.1, .string t.nm.2, x0, x1, x2, x3, x4, x5, x6, .slice A t.args.length c] 35)
 have B1 : Hid (TB (w.alloc (.cells #[.int .i64 t.kd, .string t.nm.1, .string t.nm.2, x0, x1, x2, x3, x4, x5, x6, .slice A t.args.length c] 35)) w.heap.size [.int .i64 t.kd, .string t.nm.1, .string t.nm.2, x0, x1, x2, x3, x4, x5, x6, .slice A t.args.length c]) := TB.new w _
 have CC := hI (countT8 t 3001 (w.alloc (.cells #[.int .i64 t.kd, .string t.nm.1, .string t.nm.2, x0, x1, x2, x3, x4, x5, x6, .slice A t.args.length c] 35)) _ S (by decide) (by decide) hcn (hS.later hA.size) (h.below hS hA))
 have HA := hI hA
 obtain ⟨n, hn⟩ : ∃ n, min t.nodes 3001 = n := ⟨_, rfl⟩
 rw [hn] at CC ⊢
 have hnl : (n : Int) ≤ 3001 := by omega
 unfold vTm at CC ⊢
 clear h hA hva ha hcn hS hn
 go_enter Tryz.func49, Tryz.ntmps49
 go_upto_region 1 with fail
 generalize (w.alloc (.cells #[.int .i64 t.kd, .string t.nm.1, .string t.nm.2, x0, x1, x2, x3, x4, x5, x6, .slice A t.args.length c] 35)) = Y at *
 go_wp2_with ((with_reducible refine loadTb (cs := [.int .i64 t.kd, .string t.nm.1, .string t.nm.2, x0, x1, x2, x3, x4, x5, x6, .slice A t.args.length c]) (.tmp 1) ?_ ?_ ?_ B1.out ?_ ?_); rfl; rfl; rfl; rfl)
 refine CC.out.mono ?_
 rintro e w2 ⟨rfl, hb2⟩
 have HW : Hid (Below w.heap.size w w2) := HA.out.trans (hb2.mono HA.out.size)
 clear hb2 CC
 go_wp2_with fail
 go_ret
 exact ⟨ret_int (by omega), HW.out⟩
def LmsL (Y wr : World) (i : Nat) (sl : Value) : Prop := ∃ ls xs, MkF NoB Y wr ls sl xs ∧ ls.length = i ∧ ∀ f ∈ ls, f.2.2.nodes ≤ 3000
def LNv (w0 : World) (l : List Nm) : Lv := fun v _ _ w => w0.heap.size ≤ w.heap.size ∧ NsV w (Upto w0 w NoB) l v
theorem mLNv (w0 : World) (l : List Nm) : Mon (LNv w0 l) := fun _ _ _ _ _ ⟨h0, h⟩ _ hb => ⟨Nat.le_trans h0 hb.size, h.keep (fun b hb' => upto_more hb.size b hb') (fun b hb' => hb.block b (upto_lt (NoB.in _) h0 b hb'))⟩
def LLm (w0 : World) : Lv := fun v _ _ w => w0.heap.size ≤ w.heap.size ∧ ∃ f cs, v = .agg cs.toArray ∧ LmC w (Upto w0 w NoB) f cs ∧ f.2.2.nodes ≤ 3000
theorem mLLm (w0 : World) : Mon (LLm w0) := fun _ _ _ _ _ ⟨h0, f, cs, h, k, hp⟩ _ hb => ⟨Nat.le_trans h0 hb.size, f, cs, h, k.keep (fun b hb' => upto_more hb.size b hb') (fun b hb' => hb.block b (upto_lt (NoB.in _) h0 b hb')), hp⟩
def LLs (w0 : World) : Lv := fun v lo hi w => w0.heap.size ≤ w.heap.size ∧ ∃ f cs, v = .slice (some ⟨lo, 0, none⟩) 1 1 ∧ w.heap[lo]? = some (.cells cs.toArray 69 (0, 0)) ∧ lo < hi ∧ LmC w (Upto w0 w NoB) f cs ∧ f.2.2.nodes ≤ 3000
theorem mLLs (w0 : World) : Mon (LLs w0) := fun _ _ _ _ _ ⟨h0, f, cs, h, hr, hl, k, hp⟩ hm hb => ⟨Nat.le_trans h0 hb.size, f, cs, h, (hb.block _ (by omega)).trans hr, hl, k.keep (fun b hb' => upto_more hb.size b hb') (fun b hb' => hb.block b (upto_lt (NoB.in _) h0 b hb')), hp⟩
theorem LmC.fourteen {w : World} {S : Nat → Prop} {f : Lm} {cs : List Value} (h : LmC w S f cs) : ∃ A c x0 x1 x2 x3 x4 x5 x6 A2 c2, cs = [.string f.1.1, .string f.1.2, .slice A f.2.1.length c, .int .i64 f.2.2.kd, .string f.2.2.nm.1, .string f.2.2.nm.2, x0, x1, x2, x3, x4, x5, x6, .slice A2 f.2.2.args.length c2] := by
 obtain ⟨pv, bc, rfl, ⟨A, c, rfl, _⟩, h2⟩ := h
 obtain ⟨x0, x1, x2, x3, x4, x5, x6, A2, c2, rfl, _, _⟩ := h2.eleven
 exact ⟨A, c, x0, x1, x2, x3, x4, x5, x6, A2, c2, rfl⟩
theorem TmAt.has9 {w w' : World} {t : Tm} {cs : List Value} (h : TmAt w (Has w) t cs) (hb : Below w.heap.size w w') : TmAt w' (Has w') t cs := (h.below (In.has w) hb).more (fun b h => Nat.lt_of_lt_of_le h hb.size)
theorem LmsV.has {w w' : World} {l : List Lm} {v : Value} (h : LmsV w (Has w) l v) (hb : Below w.heap.size w w') : LmsV w' (Has w') l v := (h.below (In.has w) hb).more (fun b h => Nat.lt_of_lt_of_le h hb.size)
theorem termInstancesW (ra : Rw) (qa0 qa1 qa2 qa3 : Value) (l : List Rw) (A : Option Addr) (c : Nat) (w : World) (hra : RawAt w (Has w) ra [qa0, qa1, qa2, qa3]) (hlc : l.length ≤ c) (hcm : c ≤ maxLen) (hA : 0 < l.length → ∃ b o, A = some ⟨b, o, none⟩ ∧ Has w b ∧ RawsAt w (Has w) b o l) (ht : Tab w) :
 Calls Tryz.prog 9 #[.agg #[qa0, qa1, qa2, qa3], .slice A l.length c] w (RetB w true) := by
 have HRA := hI hra
 have HTB := hI ht
 have HA0 := hI hA
 have FA : Hid (∀ X, Below w.heap.size w X → Calls Tryz.prog 14 #[.agg #[qa0, qa1, qa2, qa3], .int .i64 20] X (fun e w' => e = .returned (.bool (few ra 20)) ∧ Below X.heap.size X w')) := fun X h => fewO ra [qa0, qa1, qa2, qa3] 20 X (Has w) (In.has w |>.later h.size) (HRA.out.below (In.has w) h) (by decide) (by decide)
 have KA : Hid (few ra 20 = true → ra.cnt ≤ 20 ∧ ∀ X, Below w.heap.size w X → Calls Tryz.prog 15 #[.agg #[qa0, qa1, qa2, qa3]] X (RetTP X (mtP (fun _ _ => True) ra))) := fun hf => by
  obtain ⟨hok, hcn⟩ := few_ok hf
  exact ⟨by omega, fun X h => madeT (fun _ _ => True) oMkT ra [qa0, qa1, qa2, qa3] X (Has w) (In.has w |>.later h.size) (HRA.out.below (In.has w) h) hok (HTB.out.below h)⟩
 have CA : Hid (∀ X, Below w.heap.size w X → Calls Tryz.prog 13 #[.slice A l.length c, .int .i64 8] X (fun e w' => ∃ t, e = .returned (.bool t) ∧ Below X.heap.size X w' ∧ (t = true → l.length ≤ 8 ∧ ∀ i (hi : i < l.length), few l[i] 8 = true))) := fun X h => fewAllO l A c 8 X (Has w) (In.has w |>.later h.size) hlc hcm (by decide) (by decide) (fun h0 => by
  obtain ⟨b, o, e, hb, hrs⟩ := HA0.out h0
  exact ⟨b, o, e, hb, RawsAt.keep (fun q hq => h.cell (In.has w q.block hq)) b o hb l hrs⟩)
 have HI : Hid (∀ i (hi : i < l.length), few l[i] 8 = true → ∀ X cs, RawAt X (Has w) l[i] cs → Below w.heap.size w X → Calls Tryz.prog 15 #[.agg cs.toArray] X (RetTP X (fun t => t.nodes ≤ 3000))) := fun i hi hf X cs hraw h => by
  obtain ⟨hok, hcn⟩ := few_ok hf
  refine (madeT (fun _ _ => True) oMkT l[i] cs X (Has w) (In.has w |>.later h.size) hraw hok (HTB.out.below h)).mono ?_
  rintro e w' ⟨t, ht, hm⟩
  exact ⟨t, ht, by have := mtP_nodes _ _ hm; omega⟩
 generalize few ra 20 = fa at FA KA
 have BRX : Hid ((w.alloc (.cells #[qa0, qa1, qa2, qa3] 26)).heap[w.heap.size]? = some (.cells #[qa0, qa1, qa2, qa3] 26 (0, 0))) := heap_alloc_new w _
 have hA1 : Below w.heap.size w (w.alloc (.cells #[qa0, qa1, qa2, qa3] 26)) := below_alT w _
 have HB := hI hA1
 clear hra ht hA hA1 hcm HRA
 go_enter Tryz.func9, Tryz.ntmps9
 go_upto_region 1 with fail
 generalize (w.alloc (.cells #[qa0, qa1, qa2, qa3] 26)) = W at *
 obtain ⟨j2, hj2⟩ : ∃ g, w.heap.size = g := ⟨_, rfl⟩
 rw [hj2] at BRX ⊢
 clear hj2
 go_wp2_with fail
 with_reducible refine (first8 W).mono ?_
 rintro e w1 ⟨rfl, hb⟩
 replace BRX := hI ((hb.block _ (lt_row BRX.out)).trans BRX.out)
 replace HB := hI (chain2 HB.out hb (Nat.le_refl _))
 clear hb
 have dqa0 : w1.cell? ⟨j2, 0, none⟩ = some qa0 := by rw [cell_of_row _ _ _ _ _ _ BRX.out]; rfl
 have dqa1 : w1.cell? ⟨j2, 1, none⟩ = some qa1 := by rw [cell_of_row _ _ _ _ _ _ BRX.out]; rfl
 have dqa2 : w1.cell? ⟨j2, 2, none⟩ = some qa2 := by rw [cell_of_row _ _ _ _ _ _ BRX.out]; rfl
 have dqa3 : w1.cell? ⟨j2, 3, none⟩ = some qa3 := by rw [cell_of_row _ _ _ _ _ _ BRX.out]; rfl
 go_wp2_with fail
 with_reducible refine (FA.out _ HB.out).mono ?_
 rintro e w2 ⟨rfl, hb⟩
 replace BRX := hI ((hb.block _ (lt_row BRX.out)).trans BRX.out)
 replace HB := hI (chain2 HB.out hb (Nat.le_refl _))
 clear hb
 clear FA dqa0 dqa1 dqa2 dqa3
 cases fa with
 | false =>
  go_wp2
  go_ret
  exact ⟨rfl, HB.out⟩
 | true =>
  obtain ⟨hca, hKA⟩ := KA.out (by simp)
  replace KA := hI hKA
  have HCA := hI hca
  clear hKA hca
  go_wp2_with fail
  with_reducible refine (CA.out _ HB.out).mono ?_
  rintro e w3 ⟨tt, rfl, hb, hfa⟩
  replace BRX := hI ((hb.block _ (lt_row BRX.out)).trans BRX.out)
  replace HB := hI (chain2 HB.out hb (Nat.le_refl _))
  clear hb
  clear CA
  cases tt with
  | false =>
   go_wp2
   go_ret
   exact ⟨rfl, HB.out⟩
  | true =>
   obtain ⟨hl8, hfew⟩ := hfa rfl
   have HFW := hI hfew
   clear hfa hfew
   obtain ⟨L, hL⟩ : ∃ L, l.length = L := ⟨_, rfl⟩
   have HL := hI hL
   rw [hL] at hl8 hlc ⊢
   obtain ⟨i0, hi0, hz0, hz1, hz2⟩ := infoF
   have HI0 := hI hi0
   have HZ0 := hI hz0
   have HZ1 := hI hz1
   have HZ2 := hI hz2
   have h0 : Hid (LmsL w3 w3 0 (.slice none 0 0)) := ⟨[], [], MkF.start NoB _, rfl, fun f hf => by simp at hf⟩
   clear hL hi0 hz0 hz1 hz2
   go_wp2_with fail
   go_loopw [5, 6] (fun u v wr => ∃ (i : Nat) (sl : Value), sl = u ∧ i ≤ L ∧ v = .int .i64 (i : Int) ∧ Hid (LmsL w3 wr i sl)) (fun _ v _ => L - (intOf v).toNat)
   case atStart => exact ⟨0, _, rfl, Nat.zero_le _, rfl, h0⟩
   case round =>
    clear h0
    obtain ⟨i, sl, rfl, hiL, rfl, hE⟩ := hrel
    obtain ⟨wo, rfl⟩ : ∃ wo : World, wo = wr := ⟨_, rfl⟩
    obtain ⟨ls, xs, hM, htl, hnd⟩ := hE.out
    have HBO := hI (chain2 HB.out hM.bel (Nat.le_refl _))
    by_cases hlt : i < L
    · have hil : i < l.length := by rw [HL.out]; exact hlt
      have hwb : Below wo.heap.size wo (wo.alloc (.cells #[.string ⟨#[102]⟩, .string ⟨#[103]⟩, .string ⟨#[104]⟩] 9)) := below_alT wo _
      have hN : (wo.alloc (.cells #[.string ⟨#[102]⟩, .string ⟨#[103]⟩, .string ⟨#[104]⟩] 9)).heap[wo.heap.size]? = some (.cells #[.string ⟨#[102]⟩, .string ⟨#[103]⟩, .string ⟨#[104]⟩] 9 (0, 0)) := heap_alloc_new _ _
      have HMB := hI (hM.below hwb)
      have HBB : Hid (Below w.heap.size w (wo.alloc (.cells #[.string ⟨#[102]⟩, .string ⟨#[103]⟩, .string ⟨#[104]⟩] 9))) := chain2 HBO.out hwb (Nat.le_refl _)
      have HNN := hI hN
      have HTL := hI htl
      have HND := hI hnd
      clear hwb hN hM htl hnd hE HBO
      go_wp2_with fail
      generalize (wo.alloc (.cells #[.string ⟨#[102]⟩, .string ⟨#[103]⟩, .string ⟨#[104]⟩] 9)) = wb at *
      generalize wo.heap.size = gn at *
      obtain ⟨b, o, rfl, hbh, hrs⟩ := HA0.out (by omega)
      obtain ⟨cs, hcs, hcell⟩ := hrs.get hil
      have hcs' := hcs.below (In.has w) HBB.out
      have ha0 : b < w.heap.size := In.has w b hbh
      obtain ⟨k, n, z2, z3, rfl, hk64, hn64⟩ : ∃ k n z2 z3, cs = [.int .i64 k, .int .i64 n, z2, z3] ∧ I64 k ∧ I64 n := by
       generalize l[i] = r at hcs
       cases r with
       | mk k n s l => unfold RawAt at hcs; obtain ⟨A, c, e, hk, hn, _⟩ := hcs; exact ⟨_, _, _, _, e, hk, hn⟩
      have l0 := (HBB.out.cell (p := ⟨b, o + i * 4 + 0, none⟩) ha0).trans (hcell 0 _ rfl)
      have L1 := hI ((HBB.out.cell (p := ⟨b, o + i * 4 + 1, none⟩) ha0).trans (hcell 1 _ rfl))
      have L2 := hI ((HBB.out.cell (p := ⟨b, o + i * 4 + 2, none⟩) ha0).trans (hcell 2 z2 rfl))
      have L3 := hI ((HBB.out.cell (p := ⟨b, o + i * 4 + 3, none⟩) ha0).trans (hcell 3 z3 rfl))
      rw [Nat.add_zero] at l0
      have L0 := hI l0
      have HLB : Hid (b < wb.heap.size) := Nat.lt_of_lt_of_le ha0 HBB.out.size
      have CALL : Hid (∀ X, Below wb.heap.size wb X → Calls Tryz.prog 15 #[.agg #[.int .i64 k, .int .i64 n, z2, z3]] X (RetTP X (fun t => t.nodes ≤ 3000))) := (show ∀ _, _ from fun X hX => by
       have hc := HBB.out.trans (hX.mono HBB.out.size)
       exact HI.out i hil (HFW.out i hil) X [.int .i64 k, .int .i64 n, z2, z3] (hcs.below (In.has w) hc) hc)
      have hm3 : ∀ X, Calls Tryz.prog 41 #[.int .i64 n, .int .i64 3] X (fun e w' => e = .returned (.int .i64 (n % 3)) ∧ X = w') := fun X => modO n 3 X hn64.1 hn64.2 (by decide) (by decide)
      have hm4 : ∀ X, Calls Tryz.prog 41 #[.int .i64 k, .int .i64 4] X (fun e w' => e = .returned (.int .i64 (k % 4)) ∧ X = w') := fun X => modO k 4 X hk64.1 hk64.2 (by decide) (by decide)
      have j0 := Int.emod_nonneg n (show (3 : Int) ≠ 0 by decide)
      have j1 := Int.emod_lt_of_pos n (show (0 : Int) < 3 by decide)
      have q0 := Int.emod_nonneg k (show (4 : Int) ≠ 0 by decide)
      have q1 := Int.emod_lt_of_pos k (show (0 : Int) < 4 by decide)
      obtain ⟨j, hj⟩ : ∃ j : Nat, n % 3 = j := ⟨(n % 3).toNat, by omega⟩
      obtain ⟨q, hq⟩ : ∃ q : Nat, k % 4 = q := ⟨(k % 4).toNat, by omega⟩
      rw [hj] at hm3 j1
      rw [hq] at hm4 q1
      have hj3 : j < 3 := by omega
      have HJ3 : Hid ((j : Int) < 3) := j1
      have HQ4 : Hid (q ≤ 4) := (show _ ≤ _ by omega)
      obtain ⟨sn, hsn⟩ : ∃ sn, wb.cell? ⟨gn, j, none⟩ = some (.string sn) := by
       have hlt3 := hj3
       rw [cell_of_row _ _ _ _ _ _ HNN.out]
       match j, hlt3 with
       | 0, _ => exact ⟨_, rfl⟩
       | 1, _ => exact ⟨_, rfl⟩
       | 2, _ => exact ⟨_, rfl⟩
      have HCN := hI hsn
      have HLN : Hid (gn < wb.heap.size) := lt_of_heap HNN.out
      have MOC := hI hm3
      have MOD := hI hm4
      have hs3 : w3.heap.size ≤ wb.heap.size := HMB.out.bel.size
      clear hcell hcs hcs' hrs l0 hj hq hm3 hm4 j0 j1 q0 q1 hj3 hsn hk64 hn64 hil HNN
      refine wp_region_grow (l := _) 25 (by kernel_rfl) (by kernel_rfl) (fun i => [27, 28, 29, 30, 31, 32, 33, 34, 35, 36, 37, 38, 39, 40, 41, 42, 43, 44, 45, 46, 47, 48, 49, 50, 51].getD i 0) (LR [LV (sl), LV (.slice (some ⟨gn, 0, none⟩) 3 3), LV (.slice (some ⟨b, o, none⟩) L c), LV (.int .i64 (i : Int)), LV (.pointer (some ⟨b, o + i * 4, none⟩)), LV (.pointer (some ⟨b, o + i * 4 + 1, none⟩)), LV (.int .i64 n), LV (.int .i64 (j : Int)), LV (.pointer (some ⟨gn, j, none⟩)), LV (.string sn), LV (.agg #[.string (BA [117, 115, 101, 114]), .string sn]), LV (.slice (some ⟨b, o, none⟩) L c), LV (.int .i64 (i : Int)), LV (.pointer (some ⟨b, o + i * 4, none⟩)), LV (.pointer (some ⟨b, o + i * 4, none⟩)), LV (.int .i64 k), LV (.int .i64 (q : Int)), LNv wb (vN4.take q), LV (.slice (some ⟨b, o, none⟩) L c), LV (.int .i64 (i : Int)), LV (.pointer (some ⟨b, o + i * 4, none⟩)), LV (.agg #[.int .i64 k, .int .i64 n, z2, z3]), LTP wb (fun t => t.nodes ≤ 3000), LLm wb, LLs wb]) (LR_mono ⟨mLV _, mLV _, mLV _, mLV _, mLV _, mLV _, mLV _, mLV _, mLV _, mLV _, mLV _, mLV _, mLV _, mLV _, mLV _, mLV _, mLV _, mLNv _ _, mLV _, mLV _, mLV _, mLV _, mLTP wb _, mLLm wb, mLLs wb, trivial⟩) (by
       intro i j hi hj h
       exact inj_getD [27, 28, 29, 30, 31, 32, 33, 34, 35, 36, 37, 38, 39, 40, 41, 42, 43, 44, 45, 46, 47, 48, 49, 50, 51] (by decide) i j hi hj h) (by
       intro i hi
       exact lt_getD 72 [27, 28, 29, 30, 31, 32, 33, 34, 35, 36, 37, 38, 39, 40, 41, 42, 43, 44, 45, 46, 47, 48, 49, 50, 51] (by decide) i hi) ?step ?done
      case step =>
       intro ii hii a w9 v lo hi' hoth hb hw
       have sl5 : a.tmps[5]? = some (sl) := (hoth 5 (fun j hj => ne_getD 5 _ (by decide) j hj)).trans rfl
       have sl7 : a.tmps[7]? = some (.slice (some ⟨gn, 0, none⟩) 3 3) := (hoth 7 (fun j hj => ne_getD 7 _ (by decide) j hj)).trans rfl
       have sl1 : a.tmps[1]? = some (.slice (some ⟨b, o, none⟩) L c) := (hoth 1 (fun j hj => ne_getD 1 _ (by decide) j hj)).trans rfl
       have sl6 : a.tmps[6]? = some (.int .i64 (i : Int)) := (hoth 6 (fun j hj => ne_getD 6 _ (by decide) j hj)).trans rfl
       match ii, hii with
       | 0, _ =>
        exact gw_move rfl (wanted_plain rfl) 5 _ rfl sl5 ⟨_, rfl, Below.refl _ _, rfl⟩
       | 1, _ =>
        exact gw_move rfl (wanted_plain rfl) 7 _ rfl sl7 ⟨_, rfl, Below.refl _ _, rfl⟩
       | 2, _ =>
        exact gw_move rfl (wanted_plain rfl) 1 _ rfl sl1 ⟨_, rfl, Below.refl _ _, rfl⟩
       | 3, _ =>
        exact gw_move rfl (wanted_plain rfl) 6 _ rfl sl6 ⟨_, rfl, Below.refl _ _, rfl⟩
       | 4, _ =>
        obtain ⟨s0, r0, _⟩ := hw 2 (by omega) (by kernel_rfl)
        have e0 : v 2 = .slice (some ⟨b, o, none⟩) L c := r0
        rw [e0] at s0
        replace s0 : a.tmps[29]? = some (.slice (some ⟨b, o, none⟩) L c) := s0
        obtain ⟨s1, r1, _⟩ := hw 3 (by omega) (by kernel_rfl)
        have e1 : v 3 = .int .i64 (i : Int) := r1
        rw [e1] at s1
        replace s1 : a.tmps[30]? = some (.int .i64 (i : Int)) := s1
        refine wpOp_step rfl fun K' hK' => ?_
        rw [if_pos (wanted_plain rfl)]
        unfold Oper.wp
        simp only [execOp]
        go_simp
        exact hK' _ _ ⟨_, rfl, Below.refl _ _, rfl⟩
       | 5, _ =>
        obtain ⟨s0, r0, _⟩ := hw 4 (by omega) (by kernel_rfl)
        have e0 : v 4 = .pointer (some ⟨b, o + i * 4, none⟩) := r0
        rw [e0] at s0
        replace s0 : a.tmps[31]? = some (.pointer (some ⟨b, o + i * 4, none⟩)) := s0
        refine wpOp_step rfl fun K' hK' => ?_
        rw [if_pos (wanted_plain rfl)]
        unfold Oper.wp
        simp only [execOp]
        go_simp
        exact hK' _ _ ⟨_, rfl, Below.refl _ _, rfl⟩
       | 6, _ =>
        obtain ⟨s0, r0, _⟩ := hw 5 (by omega) (by kernel_rfl)
        have e0 : v 5 = .pointer (some ⟨b, o + i * 4 + 1, none⟩) := r0
        rw [e0] at s0
        replace s0 : a.tmps[32]? = some (.pointer (some ⟨b, o + i * 4 + 1, none⟩)) := s0
        have cc1 := (hb.cell (p := ⟨b, o + i * 4 + 1, none⟩) HLB.out).trans L1.out
        refine wpOp_step rfl fun K' hK' => ?_
        rw [if_pos (wanted_plain rfl)]
        unfold Oper.wp
        simp only [execOp]
        go_simp
        exact hK' _ _ ⟨_, rfl, Below.refl _ _, rfl⟩
       | 7, _ =>
        obtain ⟨s0, r0, _⟩ := hw 6 (by omega) (by kernel_rfl)
        have e0 : v 6 = .int .i64 n := r0
        rw [e0] at s0
        replace s0 : a.tmps[33]? = some (.int .i64 n) := s0
        refine gw_tc rfl (wanted_plain rfl) 41 33 _ _ _ rfl (fun v u w => by go_simp) s0 ?_
        with_reducible refine (MOC.out w9).mono ?_
        rintro e w3 ⟨rfl, rfl⟩
        exact ⟨_, rfl, _, rfl, Below.refl _ _, rfl⟩
       | 8, _ =>
        obtain ⟨s0, r0, _⟩ := hw 1 (by omega) (by kernel_rfl)
        have e0 : v 1 = .slice (some ⟨gn, 0, none⟩) 3 3 := r0
        rw [e0] at s0
        replace s0 : a.tmps[28]? = some (.slice (some ⟨gn, 0, none⟩) 3 3) := s0
        obtain ⟨s1, r1, _⟩ := hw 7 (by omega) (by kernel_rfl)
        have e1 : v 7 = .int .i64 (j : Int) := r1
        rw [e1] at s1
        replace s1 : a.tmps[34]? = some (.int .i64 (j : Int)) := s1
        refine wpOp_step rfl fun K' hK' => ?_
        rw [if_pos (wanted_plain rfl)]
        unfold Oper.wp
        simp only [execOp]
        go_simp
        rw [if_pos HJ3.out]
        exact hK' _ _ ⟨_, rfl, Below.refl _ _, rfl⟩
       | 9, _ =>
        obtain ⟨s0, r0, _⟩ := hw 8 (by omega) (by kernel_rfl)
        have e0 : v 8 = .pointer (some ⟨gn, j, none⟩) := r0
        rw [e0] at s0
        replace s0 : a.tmps[35]? = some (.pointer (some ⟨gn, j, none⟩)) := s0
        have cc := (hb.cell (p := ⟨gn, j, none⟩) HLN.out).trans HCN.out
        refine wpOp_step rfl fun K' hK' => ?_
        rw [if_pos (wanted_plain rfl)]
        unfold Oper.wp
        simp only [execOp]
        go_simp
        exact hK' _ _ ⟨_, rfl, Below.refl _ _, rfl⟩
       | 10, _ =>
        obtain ⟨s0, r0, _⟩ := hw 9 (by omega) (by kernel_rfl)
        have e0 : v 9 = .string sn := r0
        rw [e0] at s0
        replace s0 : a.tmps[36]? = some (.string sn) := s0
        refine gw_t rfl (wanted_plain rfl) 46 36 _ _ rfl (fun v w => by go_simp) s0 ?_
        with_reducible refine (userO sn w9).mono ?_
        rintro e w3 ⟨rfl, hb3⟩
        exact ⟨_, rfl, _, rfl, hb3, rfl⟩
       | 11, _ =>
        exact gw_move rfl (wanted_plain rfl) 1 _ rfl sl1 ⟨_, rfl, Below.refl _ _, rfl⟩
       | 12, _ =>
        exact gw_move rfl (wanted_plain rfl) 6 _ rfl sl6 ⟨_, rfl, Below.refl _ _, rfl⟩
       | 13, _ =>
        obtain ⟨s0, r0, _⟩ := hw 11 (by omega) (by kernel_rfl)
        have e0 : v 11 = .slice (some ⟨b, o, none⟩) L c := r0
        rw [e0] at s0
        replace s0 : a.tmps[38]? = some (.slice (some ⟨b, o, none⟩) L c) := s0
        obtain ⟨s1, r1, _⟩ := hw 12 (by omega) (by kernel_rfl)
        have e1 : v 12 = .int .i64 (i : Int) := r1
        rw [e1] at s1
        replace s1 : a.tmps[39]? = some (.int .i64 (i : Int)) := s1
        refine wpOp_step rfl fun K' hK' => ?_
        rw [if_pos (wanted_plain rfl)]
        unfold Oper.wp
        simp only [execOp]
        go_simp
        exact hK' _ _ ⟨_, rfl, Below.refl _ _, rfl⟩
       | 14, _ =>
        obtain ⟨s0, r0, _⟩ := hw 13 (by omega) (by kernel_rfl)
        have e0 : v 13 = .pointer (some ⟨b, o + i * 4, none⟩) := r0
        rw [e0] at s0
        replace s0 : a.tmps[40]? = some (.pointer (some ⟨b, o + i * 4, none⟩)) := s0
        refine wpOp_step rfl fun K' hK' => ?_
        rw [if_pos (wanted_plain rfl)]
        unfold Oper.wp
        simp only [execOp]
        go_simp
        exact hK' _ _ ⟨_, rfl, Below.refl _ _, rfl⟩
       | 15, _ =>
        obtain ⟨s0, r0, _⟩ := hw 14 (by omega) (by kernel_rfl)
        have e0 : v 14 = .pointer (some ⟨b, o + i * 4, none⟩) := r0
        rw [e0] at s0
        replace s0 : a.tmps[41]? = some (.pointer (some ⟨b, o + i * 4, none⟩)) := s0
        have cc0 := (hb.cell (p := ⟨b, o + i * 4, none⟩) HLB.out).trans L0.out
        refine wpOp_step rfl fun K' hK' => ?_
        rw [if_pos (wanted_plain rfl)]
        unfold Oper.wp
        simp only [execOp]
        go_simp
        exact hK' _ _ ⟨_, rfl, Below.refl _ _, rfl⟩
       | 16, _ =>
        obtain ⟨s0, r0, _⟩ := hw 15 (by omega) (by kernel_rfl)
        have e0 : v 15 = .int .i64 k := r0
        rw [e0] at s0
        replace s0 : a.tmps[42]? = some (.int .i64 k) := s0
        refine gw_tc rfl (wanted_plain rfl) 41 42 _ _ _ rfl (fun v u w => by go_simp) s0 ?_
        with_reducible refine (MOD.out w9).mono ?_
        rintro e w3 ⟨rfl, rfl⟩
        exact ⟨_, rfl, _, rfl, Below.refl _ _, rfl⟩
       | 17, _ =>
        obtain ⟨s0, r0, _⟩ := hw 16 (by omega) (by kernel_rfl)
        have e0 : v 16 = .int .i64 (q : Int) := r0
        rw [e0] at s0
        replace s0 : a.tmps[43]? = some (.int .i64 (q : Int)) := s0
        refine gw_t rfl (wanted_plain rfl) 47 43 _ _ rfl (fun v w => by go_simp) s0 ?_
        with_reducible refine (varsT q HQ4.out w9).mono ?_
        rintro e w3 ⟨v3, rfl, h3, hb3⟩
        exact ⟨_, rfl, _, rfl, hb3, Nat.le_trans hb.size hb3.size, h3.more (fun b hb0 => up3 (Below.refl _ wb) hb b hb0)⟩
       | 18, _ =>
        exact gw_move rfl (wanted_plain rfl) 1 _ rfl sl1 ⟨_, rfl, Below.refl _ _, rfl⟩
       | 19, _ =>
        exact gw_move rfl (wanted_plain rfl) 6 _ rfl sl6 ⟨_, rfl, Below.refl _ _, rfl⟩
       | 20, _ =>
        obtain ⟨s0, r0, _⟩ := hw 18 (by omega) (by kernel_rfl)
        have e0 : v 18 = .slice (some ⟨b, o, none⟩) L c := r0
        rw [e0] at s0
        replace s0 : a.tmps[45]? = some (.slice (some ⟨b, o, none⟩) L c) := s0
        obtain ⟨s1, r1, _⟩ := hw 19 (by omega) (by kernel_rfl)
        have e1 : v 19 = .int .i64 (i : Int) := r1
        rw [e1] at s1
        replace s1 : a.tmps[46]? = some (.int .i64 (i : Int)) := s1
        refine wpOp_step rfl fun K' hK' => ?_
        rw [if_pos (wanted_plain rfl)]
        unfold Oper.wp
        simp only [execOp]
        go_simp
        exact hK' _ _ ⟨_, rfl, Below.refl _ _, rfl⟩
       | 21, _ =>
        obtain ⟨s0, r0, _⟩ := hw 20 (by omega) (by kernel_rfl)
        have e0 : v 20 = .pointer (some ⟨b, o + i * 4, none⟩) := r0
        rw [e0] at s0
        replace s0 : a.tmps[47]? = some (.pointer (some ⟨b, o + i * 4, none⟩)) := s0
        have cc0 := (hb.cell (p := ⟨b, o + i * 4, none⟩) HLB.out).trans L0.out
        have cc1 := (hb.cell (p := ⟨b, o + i * 4 + 1, none⟩) HLB.out).trans L1.out
        have cc2 := (hb.cell (p := ⟨b, o + i * 4 + 2, none⟩) HLB.out).trans L2.out
        have cc3 := (hb.cell (p := ⟨b, o + i * 4 + 3, none⟩) HLB.out).trans L3.out
        refine wpOp_step rfl fun K' hK' => ?_
        rw [if_pos (wanted_plain rfl)]
        unfold Oper.wp
        simp only [execOp]
        go_simp
        exact hK' _ _ ⟨_, rfl, Below.refl _ _, rfl⟩
       | 22, _ =>
        obtain ⟨s0, r0, _⟩ := hw 21 (by omega) (by kernel_rfl)
        have e0 : v 21 = .agg #[.int .i64 k, .int .i64 n, z2, z3] := r0
        rw [e0] at s0
        replace s0 : a.tmps[48]? = some (.agg #[.int .i64 k, .int .i64 n, z2, z3]) := s0
        refine gw_t rfl (wanted_plain rfl) 15 48 _ _ rfl (fun v w => by go_simp) s0 ?_
        with_reducible refine (CALL.out w9 hb).mono ?_
        rintro e w3 ⟨t, ⟨cs3, rfl, h3, hb3⟩, hmt⟩
        exact ⟨_, rfl, _, rfl, hb3, Nat.le_trans hb.size hb3.size, t, cs3, rfl, h3.more (fun b hb0 => up3 (Below.refl _ wb) hb b hb0), hmt⟩
       | 23, _ =>
        obtain ⟨s0, r0, _⟩ := hw 10 (by omega) (by kernel_rfl)
        have e0 : v 10 = .agg #[.string (BA [117, 115, 101, 114]), .string sn] := r0
        rw [e0] at s0
        replace s0 : a.tmps[37]? = some (.agg #[.string (BA [117, 115, 101, 114]), .string sn]) := s0
        obtain ⟨s1, r1, b1⟩ := hw 17 (by omega) (by kernel_rfl)
        obtain ⟨hz1, hv1⟩ : LNv wb (vN4.take q) (v 17) (lo 17) (hi' 17) w9 := r1
        obtain ⟨v1, ev1⟩ : ∃ x, v 17 = x := ⟨_, rfl⟩
        rw [ev1] at hv1 s1
        have hvv := hv1
        obtain ⟨Av, cv, rfl, _, _⟩ := hv1
        replace s1 : a.tmps[44]? = some (.slice Av (vN4.take q).length cv) := s1
        obtain ⟨s2, r2, b2⟩ := hw 22 (by omega) (by kernel_rfl)
        obtain ⟨hz2, t2, cs2, e2, ht2, hm2⟩ := r2
        rw [e2] at s2
        obtain ⟨y0, y1, y2, y3, y4, y5, y6, A3, c3, ec, _, _⟩ := ht2.eleven
        subst ec
        unfold vTm at s2
        replace s2 : a.tmps[49]? = some (.agg #[.int .i64 t2.kd, .string t2.nm.1, .string t2.nm.2, y0, y1, y2, y3, y4, y5, y6, .slice A3 t2.args.length c3]) := s2
        generalize vN4.take q = vs at *
        refine wpOp_step rfl fun K' hK' => ?_
        rw [if_pos (wanted_plain rfl)]
        unfold Oper.wp
        simp only [execOp]
        go_simp
        exact hK' _ _ ⟨_, rfl, Below.refl _ _, hb.size, ((BA [117, 115, 101, 114], sn), vs, t2), [.string (BA [117, 115, 101, 114]), .string sn, .slice Av vs.length cv, .int .i64 t2.kd, .string t2.nm.1, .string t2.nm.2, y0, y1, y2, y3, y4, y5, y6, .slice A3 t2.args.length c3], rfl, ⟨_, _, rfl, hvv, ht2⟩, hm2⟩
       | 24, _ =>
        obtain ⟨s0, r0, b0⟩ := hw 23 (by omega) (by kernel_rfl)
        obtain ⟨hz0, f0, cs0, e0, hl0, hm0⟩ := r0
        rw [e0] at s0
        have hl0' := hl0
        obtain ⟨Af, cf, x0, x1, x2, x3, x4, x5, x6, A2, c2, ec⟩ := hl0.fourteen
        subst ec
        replace s0 : a.tmps[50]? = some (.agg #[.string f0.1.1, .string f0.1.2, .slice Af f0.2.1.length cf, .int .i64 f0.2.2.kd, .string f0.2.2.nm.1, .string f0.2.2.nm.2, x0, x1, x2, x3, x4, x5, x6, .slice A2 f0.2.2.args.length c2]) := s0
        refine wpOp_step rfl fun K' hK' => ?_
        rw [if_pos (wanted_plain rfl)]
        unfold Oper.wp
        simp only [execOp]
        go_simp
        exact hK' _ _ ⟨_, rfl, below_alT _ _, Nat.le_trans hb.size (below_alT _ _).size, f0, _, rfl, heap_alloc_new _ _, by simp, (hl0'.keep (fun _ h => h) (fun b hb' => (below_alT _ _).block b (upto_lt (NoB.in _) hb.size b hb'))).keep (fun b hb' => upto_more (below_alT _ _).size b hb') (fun _ _ => rfl), hm0⟩
       | k + 25, h => exact absurd h (by omega)
      case done =>
       intro a w9 v lo hi' hdef hsz hoth hb hj hap
       obtain ⟨_, hv0, _, _⟩ := hj 0 (by omega)
       obtain ⟨_, ⟨hz24, f, cs3, hv24, hrow, hlt24, h3, hmf⟩, hlo24, hhi24⟩ := hj 24 (by omega)
       have ha := eq_puts hdef hsz hoth (fun i hi => (hj i hi).1)
       subst ha
       clear hj hoth hdef hsz hap
       change v 0 = _ at hv0
       simp only [puts, List.getD_cons_zero, List.getD_cons_succ, hv0, hv24]
       generalize v 1 = v1
       generalize v 2 = v2
       generalize v 3 = v3
       generalize v 4 = v4
       generalize v 5 = v5
       generalize v 6 = v6
       generalize v 7 = v7
       generalize v 8 = v8
       generalize v 9 = v9
       generalize v 10 = v10
       generalize v 11 = v11
       generalize v 12 = v12
       generalize v 13 = v13
       generalize v 14 = v14
       generalize v 15 = v15
       generalize v 16 = v16
       generalize v 17 = v17
       generalize v 18 = v18
       generalize v 19 = v19
       generalize v 20 = v20
       generalize v 21 = v21
       generalize v 22 = v22
       generalize v 23 = v23
       clear hv0 hv24
       simp only [Act.put, List.setIfInBounds_toArray, List.set_cons_zero, List.set_cons_succ]
       show wpList _ _ _ [_, _] _ _
       have own3 := hI (HMB.out.below hb).own
       rw [HTL.out] at own3
       have h14 := h3.length
       have hone := h3.one
       have HSTEP : Hid (∀ v' w4, w4.ownsRow w3.heap.size 69 14 v' (i + 1) (xs.flatten ++ cs3) → w9.grownBy w4 sl.ownBlock → (v'.ownBlock = sl.ownBlock ∨ v'.ownBlock = some w9.heap.size) → LmsL w3 w4 (i + 1) v') :=
        fun v' w4 h4 hg hat => ⟨_, _, HMB.out.step2 (NoB.in _) hb h3 (by rw [HTL.out]; exact h4) hg hat, by rw [List.length_append, HTL.out]; rfl, fun f' hf' => by
         rcases List.mem_append.1 hf' with hf' | hf'
         · exact HND.out f' hf'
         · have : f' = f := by simpa using hf'
           rw [this]; exact hmf⟩
       have hnews : ∀ j u, cs3[j]? = some u → w9.cell? ((⟨lo 24, 0, none⟩ : Addr).add j) = some u := news_at hrow
       have hs4 : w3.heap.size ≤ w9.heap.size := by have := hb.size; omega
       have HNEWS := hI hnews
       have HONE := hI hone
       have HL14 := hI h14
       generalize lo 24 = qq at *
       clear h3 hb CALL hnews HMB hrow hlt24 hz24 h14 hone
       go_wp2_with (at_builtin; refine wpList_append_own_at _ rfl (.tmp 27) (.tmp 51) _ rfl w3.heap.size 69 i0 _ 14 232 Tryz.underlying64 HI0.out HZ0.out HZ1.out HZ2.out rfl (by omega) sl i xs.flatten rfl own3.out ⟨qq, 0, none⟩ 1 1 cs3 rfl HL14.out HNEWS.out HONE.out (by simp only [maxLen]; omega) (by omega) hs4 ?_; intro v4 w4 hown4 hg4 hnil4 hat4; have hst := hI (HSTEP.out v4 w4 hown4 hg4 hat4); clear hown4 hg4 hnil4 hat4)
       go_roundw
       case rel => exact ⟨i + 1, _, rfl, by omega, by go_num, hst⟩
       case measure => simp [intOf]; omega
    · have hiL2 : i = L := by omega
      have hn2 : ¬ (i : Int) < L := by omega
      have hlv : LmsV wo (Has wo) ls sl := hM.slice.more (fun b hb0 => by rcases hb0 with h | ⟨_, h⟩; exact h.elim; exact h)
      have hlv' := hlv
      obtain ⟨A1, c1, rfl, hle1, _⟩ := hlv'
      have HLL : Hid (ls.length ≤ 10000) := (show _ ≤ _ by omega)
      have HLND := hI hnd
      obtain ⟨N, hN⟩ : ∃ N, ls.length = N := ⟨_, rfl⟩
      rw [hN] at hlv hle1 ⊢
      have HLV := hI hlv
      have hbw := hM.bel
      replace BRX := hI ((hbw.block _ (lt_row BRX.out)).trans BRX.out)
      have dqa0 : wo.cell? ⟨j2, 0, none⟩ = some qa0 := by rw [cell_of_row _ _ _ _ _ _ BRX.out]; rfl
      have dqa1 : wo.cell? ⟨j2, 1, none⟩ = some qa1 := by rw [cell_of_row _ _ _ _ _ _ BRX.out]; rfl
      have dqa2 : wo.cell? ⟨j2, 2, none⟩ = some qa2 := by rw [cell_of_row _ _ _ _ _ _ BRX.out]; rfl
      have dqa3 : wo.cell? ⟨j2, 3, none⟩ = some qa3 := by rw [cell_of_row _ _ _ _ _ _ BRX.out]; rfl
      have HTN : Hid (∀ t, mtP (fun _ _ => True) ra t → t.nodes ≤ 3000) := (show ∀ _, _ from fun t h => by have := mtP_nodes _ _ h; have := HCA.out; omega)
      clear hM hlv hE htl hnd hN hlt hl8 HI HFW HA0 hbw HB
      go_wp2_with fail
      refine (KA.out _ HBO.out).mono ?_
      rintro e w4 ⟨t, ⟨cst, rfl, ht, hb4⟩, hmt⟩
      have hup4 : ∀ b, Upto wo w4 NoB b → Has w4 b := fun b hb => by rcases hb with h | ⟨_, h⟩; exact h.elim; exact h
      have ht4 := ht.more hup4
      replace HTN := hI (HTN.out t hmt)
      have OT := hI ht.o11
      have TX : Hid (TB (w4.alloc (.cells #[.int .i64 0, .string ⟨#[]⟩, .string ⟨#[]⟩, .int .i64 0, .string ⟨#[]⟩, .string ⟨#[]⟩, .string ⟨#[]⟩, .string ⟨#[]⟩, .string ⟨#[]⟩, .slice none 0 0, .slice none 0 0] 35)) w4.heap.size zT) := heap_alloc_new w4 _
      have hX : Below w4.heap.size w4 ((w4.alloc (.cells #[.int .i64 0, .string ⟨#[]⟩, .string ⟨#[]⟩, .int .i64 0, .string ⟨#[]⟩, .string ⟨#[]⟩, .string ⟨#[]⟩, .string ⟨#[]⟩, .string ⟨#[]⟩, .slice none 0 0, .slice none 0 0] 35)).setRow w4.heap.size cst.toArray) := below_setRowO (below_alT w4 _) (Nat.le_refl _) _
      have hoX : Below wo.heap.size wo ((w4.alloc (.cells #[.int .i64 0, .string ⟨#[]⟩, .string ⟨#[]⟩, .int .i64 0, .string ⟨#[]⟩, .string ⟨#[]⟩, .string ⟨#[]⟩, .string ⟨#[]⟩, .string ⟨#[]⟩, .slice none 0 0, .slice none 0 0] 35)).setRow w4.heap.size cst.toArray) := chain2 hb4 hX (Nat.le_refl _)
      have HTT := hI (ht4.has9 hX)
      have N8 : Hid (TB ((w4.alloc (.cells #[.int .i64 0, .string ⟨#[]⟩, .string ⟨#[]⟩, .int .i64 0, .string ⟨#[]⟩, .string ⟨#[]⟩, .string ⟨#[]⟩, .string ⟨#[]⟩, .string ⟨#[]⟩, .slice none 0 0, .slice none 0 0] 35)).setRow w4.heap.size cst.toArray) w4.heap.size cst) := TX.out.set _
      replace HLV := hI (HLV.out.has hoX)
      have HB4 : Hid (Below w.heap.size w ((w4.alloc (.cells #[.int .i64 0, .string ⟨#[]⟩, .string ⟨#[]⟩, .int .i64 0, .string ⟨#[]⟩, .string ⟨#[]⟩, .string ⟨#[]⟩, .string ⟨#[]⟩, .string ⟨#[]⟩, .slice none 0 0, .slice none 0 0] 35)).setRow w4.heap.size cst.toArray)) := HBO.out.trans (hoX.mono HBO.out.size)
      clear ht ht4 hup4 hX hoX hb4 hmt KA BRX HBO dqa0 dqa1 dqa2 dqa3
      unfold vTm
      go_upto_region 12 with ((with_reducible refine storeTb (cs := cst) (.tmp 8) (.tmp 54) ?_ ?_ ?_ ?_ TX.out ?_ ?_ ?_ ?_); rfl; rfl; rfl; rfl; rfl; exact OT.out.1; exact OT.out.2)
      clear TX
      generalize (w4.alloc (.cells #[.int .i64 0, .string ⟨#[]⟩, .string ⟨#[]⟩, .int .i64 0, .string ⟨#[]⟩, .string ⟨#[]⟩, .string ⟨#[]⟩, .string ⟨#[]⟩, .string ⟨#[]⟩, .slice none 0 0, .slice none 0 0] 35)).setRow w4.heap.size cst.toArray = X4 at *
      generalize w4.heap.size = g8 at *
      have RIC := hI (instanceR ls HLND.out HLL.out (Has X4) t X4 cst _ (In.has X4) HTN.out HTT.out HLV.out)
      obtain ⟨x, hxe⟩ : ∃ x, instT ls t = x := ⟨_, rfl⟩
      have HXE := hI hxe
      rw [hxe] at RIC
      have HCN : Hid (x.cN) := (show Tm.cN x by rw [← hxe]; exact instT_cN (fun f hf => cN_of_nodes _ (HLND.out f hf)) t (cN_of_nodes t HTN.out))
      clear hxe
      go_wp2_with ((with_reducible refine loadTb (cs := cst) (.tmp 8) ?_ ?_ ?_ N8.out ?_ ?_); rfl; rfl; rfl; exact OT.out.1)
      refine RIC.out.mono ?_
      rintro e w5 ⟨csx, rfl, hx, hb5⟩
      have hx5 : TmAt w5 (Has w5) x csx := hx.more (fun b hb => upto_lt (In.has X4) hb5.size b hb)
      have OX := hI hx.o11
      have TX : Hid (TB (w5.alloc (.cells #[.int .i64 0, .string ⟨#[]⟩, .string ⟨#[]⟩, .int .i64 0, .string ⟨#[]⟩, .string ⟨#[]⟩, .string ⟨#[]⟩, .string ⟨#[]⟩, .string ⟨#[]⟩, .slice none 0 0, .slice none 0 0] 35)) w5.heap.size zT) := heap_alloc_new w5 _
      have hX : Below w5.heap.size w5 ((w5.alloc (.cells #[.int .i64 0, .string ⟨#[]⟩, .string ⟨#[]⟩, .int .i64 0, .string ⟨#[]⟩, .string ⟨#[]⟩, .string ⟨#[]⟩, .string ⟨#[]⟩, .string ⟨#[]⟩, .slice none 0 0, .slice none 0 0] 35)).setRow w5.heap.size csx.toArray) := below_setRowO (below_alT w5 _) (Nat.le_refl _) _
      have hoX : Below X4.heap.size X4 ((w5.alloc (.cells #[.int .i64 0, .string ⟨#[]⟩, .string ⟨#[]⟩, .int .i64 0, .string ⟨#[]⟩, .string ⟨#[]⟩, .string ⟨#[]⟩, .string ⟨#[]⟩, .string ⟨#[]⟩, .slice none 0 0, .slice none 0 0] 35)).setRow w5.heap.size csx.toArray) := chain2 hb5 hX (Nat.le_refl _)
      have HX := hI (hx5.has9 hX)
      have N9 : Hid (TB ((w5.alloc (.cells #[.int .i64 0, .string ⟨#[]⟩, .string ⟨#[]⟩, .int .i64 0, .string ⟨#[]⟩, .string ⟨#[]⟩, .string ⟨#[]⟩, .string ⟨#[]⟩, .string ⟨#[]⟩, .slice none 0 0, .slice none 0 0] 35)).setRow w5.heap.size csx.toArray) w5.heap.size csx) := TX.out.set _
      replace HTT := hI (HTT.out.has9 hoX)
      replace N8 := hI (N8.out.keep hoX)
      replace HLV := hI (HLV.out.has hoX)
      have HB5 : Hid (Below w.heap.size w ((w5.alloc (.cells #[.int .i64 0, .string ⟨#[]⟩, .string ⟨#[]⟩, .int .i64 0, .string ⟨#[]⟩, .string ⟨#[]⟩, .string ⟨#[]⟩, .string ⟨#[]⟩, .string ⟨#[]⟩, .slice none 0 0, .slice none 0 0] 35)).setRow w5.heap.size csx.toArray)) := HB4.out.trans (hoX.mono HB4.out.size)
      clear hx hx5 hX hoX hb5 HB4 RIC
      unfold vTm
      go_upto_region 13 with ((with_reducible refine storeTb (cs := csx) (.tmp 9) (.tmp 57) ?_ ?_ ?_ ?_ TX.out ?_ ?_ ?_ ?_); rfl; rfl; rfl; rfl; rfl; exact OX.out.1; exact OX.out.2)
      clear TX
      generalize (w5.alloc (.cells #[.int .i64 0, .string ⟨#[]⟩, .string ⟨#[]⟩, .int .i64 0, .string ⟨#[]⟩, .string ⟨#[]⟩, .string ⟨#[]⟩, .string ⟨#[]⟩, .string ⟨#[]⟩, .slice none 0 0, .slice none 0 0] 35)).setRow w5.heap.size csx.toArray = X5 at *
      generalize w5.heap.size = g9 at *
      have NDC := hI (nodesT8 x X5 csx (Has X5) HCN.out (In.has X5) HX.out)
      obtain ⟨m, hm⟩ : ∃ m, min x.nodes 3001 = m := ⟨_, rfl⟩
      rw [hm] at NDC
      have HM := hI hm
      clear hm
      go_wp2_with ((with_reducible refine loadTb (cs := csx) (.tmp 9) ?_ ?_ ?_ N9.out ?_ ?_); rfl; rfl; rfl; exact OX.out.1)
      refine NDC.out.mono ?_
      rintro e X ⟨rfl, hb6⟩
      replace HTT := hI (HTT.out.has9 hb6)
      replace HX := hI (HX.out.has9 hb6)
      replace N8 := hI (N8.out.keep hb6)
      replace N9 := hI (N9.out.keep hb6)
      replace HLV := hI (HLV.out.has hb6)
      have HB6 : Hid (Below w.heap.size w X) := HB5.out.trans (hb6.mono HB5.out.size)
      clear hb6 HB5 NDC
      by_cases hgt : (3000 : Int) < (m : Int)
      · go_wp2
        go_ret
        exact ⟨rfl, HB6.out⟩
      · have HXN : Hid (x.nodes ≤ 3000) := (show _ ≤ _ by have := HM.out; omega)
        obtain ⟨x0, x1, x2, x3, x4, x5, x6, A2, c2, rfl, _, _⟩ := HTT.out.eleven
        obtain ⟨y0, y1, y2, y3, y4, y5, y6, A3, c3, rfl, _, _⟩ := HX.out.eleven
        go_wp2_with fail
        refine wp_region_grow (l := _) 10 (by kernel_rfl) (by kernel_rfl) (fun i => [61, 62, 63, 64, 65, 66, 67, 68, 69, 70].getD i 0) (LR [LV (.agg #[.int .i64 t.kd, .string t.nm.1, .string t.nm.2, x0, x1, x2, x3, x4, x5, x6, .slice A2 t.args.length c2]), LV (.slice A1 N c1), LTm X (Has X) x, LV (.agg #[.int .i64 x.kd, .string x.nm.1, .string x.nm.2, y0, y1, y2, y3, y4, y5, y6, .slice A3 x.args.length c3]), LV (.bool true), LV (.bool true), LV (.agg #[.int .i64 t.kd, .string t.nm.1, .string t.nm.2, x0, x1, x2, x3, x4, x5, x6, .slice A2 t.args.length c2]), LTm X (Has X) t, LV (.agg #[.int .i64 t.kd, .string t.nm.1, .string t.nm.2, x0, x1, x2, x3, x4, x5, x6, .slice A2 t.args.length c2]), LV (.bool true)]) (LR_mono ⟨mLV _, mLV _, mLTm (In.has X) _, mLV _, mLV _, mLV _, mLV _, mLTm (In.has X) _, mLV _, mLV _, trivial⟩) (by
         intro i j hi hj h
         exact inj_getD [61, 62, 63, 64, 65, 66, 67, 68, 69, 70] (by decide) i j hi hj h) (by
         intro i hi
         exact lt_getD 72 [61, 62, 63, 64, 65, 66, 67, 68, 69, 70] (by decide) i hi) ?step ?done
        case step =>
         intro ii hii a w9 v lo hi' hoth hb hw
         have sl8 : a.tmps[8]? = some (.pointer (some ⟨g8, 0, none⟩)) := (hoth 8 (fun j hj => ne_getD 8 _ (by decide) j hj)).trans rfl
         have sl9 : a.tmps[9]? = some (.pointer (some ⟨g9, 0, none⟩)) := (hoth 9 (fun j hj => ne_getD 9 _ (by decide) j hj)).trans rfl
         have sl5 : a.tmps[5]? = some (.slice A1 N c1) := (hoth 5 (fun j hj => ne_getD 5 _ (by decide) j hj)).trans rfl
         match ii, hii with
         | 0, _ =>
          have HBB := N8.out.keep hb
          have ck0 : w9.cell? ⟨g8, 0, none⟩ = _ := TB.cell HBB 0 _ rfl
          have ck1 : w9.cell? ⟨g8, 1, none⟩ = _ := TB.cell HBB 1 _ rfl
          have ck2 : w9.cell? ⟨g8, 2, none⟩ = _ := TB.cell HBB 2 _ rfl
          have ck3 : w9.cell? ⟨g8, 3, none⟩ = _ := TB.cell HBB 3 _ rfl
          have ck4 : w9.cell? ⟨g8, 4, none⟩ = _ := TB.cell HBB 4 _ rfl
          have ck5 : w9.cell? ⟨g8, 5, none⟩ = _ := TB.cell HBB 5 _ rfl
          have ck6 : w9.cell? ⟨g8, 6, none⟩ = _ := TB.cell HBB 6 _ rfl
          have ck7 : w9.cell? ⟨g8, 7, none⟩ = _ := TB.cell HBB 7 _ rfl
          have ck8 : w9.cell? ⟨g8, 8, none⟩ = _ := TB.cell HBB 8 _ rfl
          have ck9 : w9.cell? ⟨g8, 9, none⟩ = _ := TB.cell HBB 9 _ rfl
          have ck10 : w9.cell? ⟨g8, 10, none⟩ = _ := TB.cell HBB 10 _ rfl
          refine wpOp_step rfl fun K' hK' => ?_
          rw [if_pos (wanted_plain rfl)]
          unfold Oper.wp
          simp only [execOp]
          go_simp
          exact hK' _ _ ⟨_, rfl, Below.refl _ _, rfl⟩
         | 1, _ =>
          exact gw_move rfl (wanted_plain rfl) 5 _ rfl sl5 ⟨_, rfl, Below.refl _ _, rfl⟩
         | 2, _ =>
          obtain ⟨s0, r0, _⟩ := hw 0 (by omega) (by kernel_rfl)
          have e0 : v 0 = .agg #[.int .i64 t.kd, .string t.nm.1, .string t.nm.2, x0, x1, x2, x3, x4, x5, x6, .slice A2 t.args.length c2] := r0
          rw [e0] at s0
          replace s0 : a.tmps[61]? = some (.agg #[.int .i64 t.kd, .string t.nm.1, .string t.nm.2, x0, x1, x2, x3, x4, x5, x6, .slice A2 t.args.length c2]) := s0
          obtain ⟨s1, r1, _⟩ := hw 1 (by omega) (by kernel_rfl)
          have e1 : v 1 = .slice A1 N c1 := r1
          rw [e1] at s1
          replace s1 : a.tmps[62]? = some (.slice A1 N c1) := s1
          have CC := instanceP ls _ HLND.out HLL.out t _ w9 (Has X) ((In.has X).later hb.size) (HTT.out.below (In.has X) hb) (HLV.out.below (In.has X) hb) HTN.out
          rw [HXE.out] at CC
          unfold vTm at CC
          refine gw_tt rfl (wanted_plain rfl) 50 61 62 _ _ _ rfl (fun v u w => by go_simp) s0 s1 ?_
          with_reducible refine (CC).mono ?_
          rintro e w3 ⟨cs3, rfl, h3, hb3⟩
          exact ⟨_, rfl, _, rfl, hb3, Nat.le_trans hb.size hb3.size, cs3, rfl, h3.more (fun b hb0 => up3 (Below.refl _ X) hb b hb0)⟩
         | 3, _ =>
          have HBB := N9.out.keep hb
          have ck0 : w9.cell? ⟨g9, 0, none⟩ = _ := TB.cell HBB 0 _ rfl
          have ck1 : w9.cell? ⟨g9, 1, none⟩ = _ := TB.cell HBB 1 _ rfl
          have ck2 : w9.cell? ⟨g9, 2, none⟩ = _ := TB.cell HBB 2 _ rfl
          have ck3 : w9.cell? ⟨g9, 3, none⟩ = _ := TB.cell HBB 3 _ rfl
          have ck4 : w9.cell? ⟨g9, 4, none⟩ = _ := TB.cell HBB 4 _ rfl
          have ck5 : w9.cell? ⟨g9, 5, none⟩ = _ := TB.cell HBB 5 _ rfl
          have ck6 : w9.cell? ⟨g9, 6, none⟩ = _ := TB.cell HBB 6 _ rfl
          have ck7 : w9.cell? ⟨g9, 7, none⟩ = _ := TB.cell HBB 7 _ rfl
          have ck8 : w9.cell? ⟨g9, 8, none⟩ = _ := TB.cell HBB 8 _ rfl
          have ck9 : w9.cell? ⟨g9, 9, none⟩ = _ := TB.cell HBB 9 _ rfl
          have ck10 : w9.cell? ⟨g9, 10, none⟩ = _ := TB.cell HBB 10 _ rfl
          refine wpOp_step rfl fun K' hK' => ?_
          rw [if_pos (wanted_plain rfl)]
          unfold Oper.wp
          simp only [execOp]
          go_simp
          exact hK' _ _ ⟨_, rfl, Below.refl _ _, rfl⟩
         | 4, _ =>
          obtain ⟨s0, r0, b0⟩ := hw 2 (by omega) (by kernel_rfl)
          obtain ⟨hz0, cs0, e0, ht0⟩ := r0
          rw [e0] at s0
          obtain ⟨s1, r1, _⟩ := hw 3 (by omega) (by kernel_rfl)
          have e1 : v 3 = .agg #[.int .i64 x.kd, .string x.nm.1, .string x.nm.2, y0, y1, y2, y3, y4, y5, y6, .slice A3 x.args.length c3] := r1
          rw [e1] at s1
          replace s1 : a.tmps[64]? = some (.agg #[.int .i64 x.kd, .string x.nm.1, .string x.nm.2, y0, y1, y2, y3, y4, y5, y6, .slice A3 x.args.length c3]) := s1
          have CC : Calls Tryz.prog 17 #[vTm cs0, .agg #[.int .i64 x.kd, .string x.nm.1, .string x.nm.2, y0, y1, y2, y3, y4, y5, y6, .slice A3 x.args.length c3]] w9 (RetB w9 (eqT x x)) := equalR (Upto X w9 (Has X)) x x w9 cs0 _ ((In.has X).upto hb.size) HXN.out ht0 ((HX.out.below (In.has X) hb).more (fun b hb0 => Or.inl hb0))
          rw [eqT_refl] at CC
          refine gw_tt rfl (wanted_plain rfl) 17 63 64 _ _ _ rfl (fun v u w => by go_simp) s0 s1 ?_
          with_reducible refine (CC).mono ?_
          rintro e w3 ⟨rfl, hb3⟩
          exact ⟨_, rfl, _, rfl, hb3, rfl⟩
         | 5, _ =>
          obtain ⟨s0, r0, _⟩ := hw 4 (by omega) (by kernel_rfl)
          have e0 : v 4 = .bool true := r0
          rw [e0] at s0
          replace s0 : a.tmps[65]? = some (.bool true) := s0
          refine wpOp_step rfl fun K' hK' => ?_
          rw [if_pos (wanted_plain rfl)]
          unfold Oper.wp
          simp only [execOp]
          go_simp
          exact hK' _ _ ⟨_, rfl, Below.refl _ _, rfl⟩
         | 6, _ =>
          obtain ⟨s9, r9, _⟩ := hw 5 (by omega) (by kernel_rfl)
          have e9 : v 5 = .bool true := r9
          rw [e9] at s9
          replace s9 : a.tmps[66]? = some (.bool true) := s9
          have HBB := N8.out.keep hb
          have ck0 : w9.cell? ⟨g8, 0, none⟩ = _ := TB.cell HBB 0 _ rfl
          have ck1 : w9.cell? ⟨g8, 1, none⟩ = _ := TB.cell HBB 1 _ rfl
          have ck2 : w9.cell? ⟨g8, 2, none⟩ = _ := TB.cell HBB 2 _ rfl
          have ck3 : w9.cell? ⟨g8, 3, none⟩ = _ := TB.cell HBB 3 _ rfl
          have ck4 : w9.cell? ⟨g8, 4, none⟩ = _ := TB.cell HBB 4 _ rfl
          have ck5 : w9.cell? ⟨g8, 5, none⟩ = _ := TB.cell HBB 5 _ rfl
          have ck6 : w9.cell? ⟨g8, 6, none⟩ = _ := TB.cell HBB 6 _ rfl
          have ck7 : w9.cell? ⟨g8, 7, none⟩ = _ := TB.cell HBB 7 _ rfl
          have ck8 : w9.cell? ⟨g8, 8, none⟩ = _ := TB.cell HBB 8 _ rfl
          have ck9 : w9.cell? ⟨g8, 9, none⟩ = _ := TB.cell HBB 9 _ rfl
          have ck10 : w9.cell? ⟨g8, 10, none⟩ = _ := TB.cell HBB 10 _ rfl
          refine wpOp_step rfl fun K' hK' => ?_
          rw [if_pos (wanted_on rfl rfl rfl s9 rfl)]
          unfold Oper.wp
          simp only [execOp]
          go_simp
          exact hK' _ _ ⟨_, rfl, Below.refl _ _, rfl⟩
         | 7, _ =>
          obtain ⟨s0, r0, _⟩ := hw 6 (by omega) (by kernel_rfl)
          have e0 : v 6 = .agg #[.int .i64 t.kd, .string t.nm.1, .string t.nm.2, x0, x1, x2, x3, x4, x5, x6, .slice A2 t.args.length c2] := r0
          rw [e0] at s0
          replace s0 : a.tmps[67]? = some (.agg #[.int .i64 t.kd, .string t.nm.1, .string t.nm.2, x0, x1, x2, x3, x4, x5, x6, .slice A2 t.args.length c2]) := s0
          obtain ⟨s9, r9, _⟩ := hw 5 (by omega) (by kernel_rfl)
          have e9 : v 5 = .bool true := r9
          rw [e9] at s9
          replace s9 : a.tmps[66]? = some (.bool true) := s9
          have CC := instanceP [] (.slice none 0 0) (fun f hf => by simp at hf) (by simp) t _ w9 (Has X) ((In.has X).later hb.size) (HTT.out.below (In.has X) hb) (LmsV.nil w9 _) HTN.out
          rw [inst_nil] at CC
          unfold vTm at CC
          refine gw_tc rfl (wanted_on rfl rfl rfl s9 rfl) 50 67 _ _ _ rfl (fun v u w => by go_simp) s0 ?_
          with_reducible refine (CC).mono ?_
          rintro e w3 ⟨cs3, rfl, h3, hb3⟩
          exact ⟨_, rfl, _, rfl, hb3, Nat.le_trans hb.size hb3.size, cs3, rfl, h3.more (fun b hb0 => up3 (Below.refl _ X) hb b hb0)⟩
         | 8, _ =>
          obtain ⟨s9, r9, _⟩ := hw 5 (by omega) (by kernel_rfl)
          have e9 : v 5 = .bool true := r9
          rw [e9] at s9
          replace s9 : a.tmps[66]? = some (.bool true) := s9
          have HBB := N8.out.keep hb
          have ck0 : w9.cell? ⟨g8, 0, none⟩ = _ := TB.cell HBB 0 _ rfl
          have ck1 : w9.cell? ⟨g8, 1, none⟩ = _ := TB.cell HBB 1 _ rfl
          have ck2 : w9.cell? ⟨g8, 2, none⟩ = _ := TB.cell HBB 2 _ rfl
          have ck3 : w9.cell? ⟨g8, 3, none⟩ = _ := TB.cell HBB 3 _ rfl
          have ck4 : w9.cell? ⟨g8, 4, none⟩ = _ := TB.cell HBB 4 _ rfl
          have ck5 : w9.cell? ⟨g8, 5, none⟩ = _ := TB.cell HBB 5 _ rfl
          have ck6 : w9.cell? ⟨g8, 6, none⟩ = _ := TB.cell HBB 6 _ rfl
          have ck7 : w9.cell? ⟨g8, 7, none⟩ = _ := TB.cell HBB 7 _ rfl
          have ck8 : w9.cell? ⟨g8, 8, none⟩ = _ := TB.cell HBB 8 _ rfl
          have ck9 : w9.cell? ⟨g8, 9, none⟩ = _ := TB.cell HBB 9 _ rfl
          have ck10 : w9.cell? ⟨g8, 10, none⟩ = _ := TB.cell HBB 10 _ rfl
          refine wpOp_step rfl fun K' hK' => ?_
          rw [if_pos (wanted_on rfl rfl rfl s9 rfl)]
          unfold Oper.wp
          simp only [execOp]
          go_simp
          exact hK' _ _ ⟨_, rfl, Below.refl _ _, rfl⟩
         | 9, _ =>
          obtain ⟨s0, r0, b0⟩ := hw 7 (by omega) (by kernel_rfl)
          obtain ⟨hz0, cs0, e0, ht0⟩ := r0
          rw [e0] at s0
          obtain ⟨s1, r1, _⟩ := hw 8 (by omega) (by kernel_rfl)
          have e1 : v 8 = .agg #[.int .i64 t.kd, .string t.nm.1, .string t.nm.2, x0, x1, x2, x3, x4, x5, x6, .slice A2 t.args.length c2] := r1
          rw [e1] at s1
          replace s1 : a.tmps[69]? = some (.agg #[.int .i64 t.kd, .string t.nm.1, .string t.nm.2, x0, x1, x2, x3, x4, x5, x6, .slice A2 t.args.length c2]) := s1
          obtain ⟨s9, r9, _⟩ := hw 5 (by omega) (by kernel_rfl)
          have e9 : v 5 = .bool true := r9
          rw [e9] at s9
          replace s9 : a.tmps[66]? = some (.bool true) := s9
          have CC : Calls Tryz.prog 17 #[vTm cs0, .agg #[.int .i64 t.kd, .string t.nm.1, .string t.nm.2, x0, x1, x2, x3, x4, x5, x6, .slice A2 t.args.length c2]] w9 (RetB w9 (eqT t t)) := equalR (Upto X w9 (Has X)) t t w9 cs0 _ ((In.has X).upto hb.size) HTN.out ht0 ((HTT.out.below (In.has X) hb).more (fun b hb0 => Or.inl hb0))
          rw [eqT_refl] at CC
          refine gw_tt rfl (wanted_on rfl rfl rfl s9 rfl) 17 68 69 _ _ _ rfl (fun v u w => by go_simp) s0 s1 ?_
          with_reducible refine (CC).mono ?_
          rintro e w3 ⟨rfl, hb3⟩
          exact ⟨_, rfl, _, rfl, hb3, rfl⟩
        case done =>
         intro a w9 v lo hi' hdef hsz hoth hb hj hap
         obtain ⟨_, hv5, _, _⟩ := hj 5 (by omega)
         obtain ⟨_, hv9, _, _⟩ := hj 9 (by omega)
         have ha := eq_puts hdef hsz hoth (fun i hi => (hj i hi).1)
         subst ha
         clear hj hoth hdef hsz hap
         change v 5 = _ at hv5
         change v 9 = _ at hv9
         simp only [puts, List.getD_cons_zero, List.getD_cons_succ, hv5, hv9]
         generalize v 0 = v0
         generalize v 1 = v1
         generalize v 2 = v2
         generalize v 3 = v3
         generalize v 4 = v4
         generalize v 6 = v6
         generalize v 7 = v7
         generalize v 8 = v8
         clear hv5 hv9
         simp only [Act.put, List.setIfInBounds_toArray, List.set_cons_zero, List.set_cons_succ]
         show wpList _ _ _ [_, _] _ _
         have HB9 : Hid (Below w.heap.size w w9) := HB6.out.trans (hb.mono HB6.out.size)
         clear hb
         go_wp2
         go_ret
         exact ⟨rfl, HB9.out⟩
theorem termInstances_walk (ra : Rw) (a0 a1 a2 a3 : Value) (l : List Rw) (A : Option Addr) (c : Nat) (w : World) (hra : RawAt w (Has w) ra [a0, a1, a2, a3]) (hlc : l.length ≤ c) (hcm : c ≤ maxLen) (hA : 0 < l.length → ∃ b o, A = some ⟨b, o, none⟩ ∧ Has w b ∧ RawsAt w (Has w) b o l) (ht : Tab w) :
 Calls Tryz.prog 9 #[.agg #[a0, a1, a2, a3], .slice A l.length c] w (RetB w true) :=
 termInstancesW ra a0 a1 a2 a3 l A c w hra hlc hcm hA ht
end Go.Proofs.YtinjhnnpbejccaaGreatDoor
