/- Ones: the law. -/
import Derived.Test.YtflnffgohbbhiaaGreatDoorG32
namespace Go.Proofs.YtflnffgohbbhiaaGreatDoor
open Go Go.RowKit
set_option linter.unusedVariables false
set_option maxHeartbeats 8000000 in
set_option maxRecDepth 100000 in
theorem lawOnes (l : List Int) (v : Value) (w : World) (hv : IntV w l v) : Calls Tryz.prog 6 #[v] w (Sy.RetY w (.bool true)) := by
 have HV := Lib.hid hv
 obtain ⟨A, c, rfl, _⟩ := hv
 obtain ⟨n, hn⟩ : ∃ n, l.length = n := ⟨_, rfl⟩
 rw [hn] at HV ⊢
 have HN := Lib.hid hn
 clear hn
 by_cases hbig : 30 < n
 · have h1 : (30 : Int) < (n : Int) := by omega
   go_enter Tryz.func6, Tryz.ntmps6
   go_wp2_with fail
   refine (firstP5 _).mono ?_
   rintro e w1 ⟨rfl, hb⟩
   go_wp2
   go_ret
   exact ⟨rfl, hb⟩
 · have h1 : ¬ (30 : Int) < (n : Int) := by omega
   have KPI : Hid (∀ W, Below w.heap.size w W → Calls Tryz.prog 14 #[.slice A n c] W (fun e w' => ∃ s : ByteArray, e = .returned (.string s) ∧ s.size ≤ 240 ∧ Below W.heap.size W w')) := fun W hb => by
    refine (piecesP l _ W (HV.out.keep hb) (by rw [HN.out]; omega)).mono ?_
    rintro e w' ⟨s, h1, h2, h3⟩
    exact ⟨s, h1, by rw [HN.out] at h2; omega, h3⟩
   clear hbig
   go_enter Tryz.func6, Tryz.ntmps6
   go_wp2_with fail
   refine (firstP5 _).mono ?_
   rintro e w0 ⟨rfl, hb0⟩
   have HB := Lib.hid hb0
   clear hb0
   go_wp2_with fail
   refine (KPI.out _ HB.out).mono ?_
   rintro e w9 ⟨s, rfl, hs, hb9⟩
   replace HB := Lib.hid (chain5 HB.out hb9)
   have HSM := Lib.hid (SmS.of (s := s) (by omega))
   clear hb9 hs
   cases hR : oneS userM ⟨#[117, 115, 101, 114]⟩ s with
   | error y =>
    obtain ⟨x, p⟩ := y
    go_wp2_with fail
    refine (packagesR _).mono ?_
    rintro e w1 ⟨x1, rfl, hx1, hb1⟩
    have KP := Lib.hid (onePr s ⟨#[117, 115, 101, 114]⟩ userM x1 w1 hx1 userB5 HSM.out)
    rw [hR] at KP
    replace HB := Lib.hid (chain5 HB.out hb1)
    clear hx1 hb1
    go_wp2_with fail
    refine KP.out.mono ?_
    rintro e w2 ⟨hb2, he⟩
    replace he : e = _ := he
    subst he
    have hal := al2 w2 (.cells #[.int .i64 0, .string ⟨#[]⟩, .string ⟨#[]⟩, .string ⟨#[]⟩, .string ⟨#[]⟩, .string ⟨#[]⟩, .slice none 0 0] 47) (.cells #[.int .i64 x, .int .i64 p] 26)
    have hbb := chain5 hb2 hal
    replace HB := Lib.hid (chain5 HB.out hbb)
    have O2 : Hid (ObB ((w2.alloc (.cells #[.int .i64 0, .string ⟨#[]⟩, .string ⟨#[]⟩, .string ⟨#[]⟩, .string ⟨#[]⟩, .string ⟨#[]⟩, .slice none 0 0] 47)).alloc (.cells #[.int .i64 x, .int .i64 p] 26)) w2.heap.size #[.int .i64 0, .string ⟨#[]⟩, .string ⟨#[]⟩, .string ⟨#[]⟩, .string ⟨#[]⟩, .string ⟨#[]⟩, .slice none 0 0]) := heap_old1 _ _ _
    have E2 : Hid (EB ((w2.alloc (.cells #[.int .i64 0, .string ⟨#[]⟩, .string ⟨#[]⟩, .string ⟨#[]⟩, .string ⟨#[]⟩, .string ⟨#[]⟩, .slice none 0 0] 47)).alloc (.cells #[.int .i64 x, .int .i64 p] 26)) (w2.heap.size + 1) (.int .i64 x) (.int .i64 p)) := newE _ _ _ _
    clear hb2 hal hbb KP
    go_upto_region 7 with fail
    generalize ((w2.alloc (.cells #[.int .i64 0, .string ⟨#[]⟩, .string ⟨#[]⟩, .string ⟨#[]⟩, .string ⟨#[]⟩, .string ⟨#[]⟩, .slice none 0 0] 47)).alloc (.cells #[.int .i64 x, .int .i64 p] 26)) = W3 at HB O2 E2 ⊢
    obtain ⟨g2, hg2⟩ : ∃ g2, w2.heap.size + 1 = g2 := ⟨_, rfl⟩
    rw [hg2] at E2 ⊢
    clear hg2
    generalize w2.heap.size = k2 at O2 ⊢
    go_wp2_with fail
    refine (packagesR _).mono ?_
    rintro e w4 ⟨x4, rfl, hx4, hb4⟩
    have KR := Lib.hid (oneR5 s ⟨#[117, 115, 101, 114]⟩ userM x4 w4 hx4 userB5 HSM.out)
    rw [hR] at KR
    replace HB := Lib.hid (chain5 HB.out hb4)
    replace E2 := Lib.hid (E2.out.keep hb4)
    replace O2 := Lib.hid (O2.out.keep hb4)
    clear hx4 hb4 hR
    go_wp2_with fail
    refine KR.out.mono ?_
    rintro e w5 ⟨hb5, he⟩
    replace he : e = _ := he
    subst he
    have hal := al2 w5 (.cells #[.int .i64 0, .string ⟨#[]⟩, .string ⟨#[]⟩, .string ⟨#[]⟩, .string ⟨#[]⟩, .string ⟨#[]⟩, .slice none 0 0] 47) (.cells #[.int .i64 x, .int .i64 p] 26)
    have hbb := chain5 hb5 hal
    replace HB := Lib.hid (chain5 HB.out hbb)
    replace E2 := Lib.hid (E2.out.keep hbb)
    replace O2 := Lib.hid (O2.out.keep hbb)
    have O5 : Hid (ObB ((w5.alloc (.cells #[.int .i64 0, .string ⟨#[]⟩, .string ⟨#[]⟩, .string ⟨#[]⟩, .string ⟨#[]⟩, .string ⟨#[]⟩, .slice none 0 0] 47)).alloc (.cells #[.int .i64 x, .int .i64 p] 26)) w5.heap.size #[.int .i64 0, .string ⟨#[]⟩, .string ⟨#[]⟩, .string ⟨#[]⟩, .string ⟨#[]⟩, .string ⟨#[]⟩, .slice none 0 0]) := heap_old1 _ _ _
    have E5 : Hid (EB ((w5.alloc (.cells #[.int .i64 0, .string ⟨#[]⟩, .string ⟨#[]⟩, .string ⟨#[]⟩, .string ⟨#[]⟩, .string ⟨#[]⟩, .slice none 0 0] 47)).alloc (.cells #[.int .i64 x, .int .i64 p] 26)) (w5.heap.size + 1) (.int .i64 x) (.int .i64 p)) := newE _ _ _ _
    clear hb5 hal hbb KR
    go_upto_region 8 with fail
    generalize ((w5.alloc (.cells #[.int .i64 0, .string ⟨#[]⟩, .string ⟨#[]⟩, .string ⟨#[]⟩, .string ⟨#[]⟩, .string ⟨#[]⟩, .slice none 0 0] 47)).alloc (.cells #[.int .i64 x, .int .i64 p] 26)) = W6 at HB O2 E2 O5 E5 ⊢
    obtain ⟨g5, hg5⟩ : ∃ g5, w5.heap.size + 1 = g5 := ⟨_, rfl⟩
    rw [hg5] at E5 ⊢
    clear hg5
    generalize w5.heap.size = k5 at O5 ⊢
    have c0 := E2.out.c0
    have c1 := E2.out.c1
    have d0 := E5.out.c0
    have d1 := E5.out.c1
    obtain ⟨m0, m1, m2, m3, m4, m5, m6⟩ := O2.out.c
    obtain ⟨l0, l1, l2, l3, l4, l5, l6⟩ := O5.out.c
    go_wp2_with fail
    refine (eqFlat 0 ⟨#[]⟩ ⟨#[]⟩ ⟨#[]⟩ ⟨#[]⟩ ⟨#[]⟩ ⟨#[]⟩ ⟨#[]⟩ ⟨#[]⟩ ⟨#[]⟩ ⟨#[]⟩ _).mono ?_
    rintro e w7 ⟨rfl, hb7⟩
    have HB7 := Lib.hid (chain5 HB.out hb7)
    clear hb7 c0 c1 d0 d1 m0 m1 m2 m3 m4 m5 m6 l0 l1 l2 l3 l4 l5 l6
    rw [show eqS ⟨#[]⟩ ⟨#[]⟩ ⟨#[]⟩ ⟨#[]⟩ ⟨#[]⟩ ⟨#[]⟩ ⟨#[]⟩ ⟨#[]⟩ ⟨#[]⟩ ⟨#[]⟩ = true from by simp [eqS]]
    go_wp2
    go_ret
    exact ⟨rfl, HB7.out⟩
   | ok ob =>
    go_wp2_with fail
    refine (packagesR _).mono ?_
    rintro e w1 ⟨x1, rfl, hx1, hb1⟩
    have KP := Lib.hid (onePr s ⟨#[117, 115, 101, 114]⟩ userM x1 w1 hx1 userB5 HSM.out)
    rw [hR] at KP
    replace HB := Lib.hid (chain5 HB.out hb1)
    clear hx1 hb1
    go_wp2_with fail
    refine KP.out.mono ?_
    rintro e w2 ⟨hb, p2, rfl, hp⟩
    clear KP
    obtain ⟨x0, x1, x2, x3, x4, x5, hz2⟩ := cells7 ob p2
    have HZ2 : Hid (Val7 ob p2 x0 x1 x2 x3 x4 x5) := hz2
    have hA := boxes2_spec w2 ob p2 (.int .i64 0) (.int .i64 0)
    have hbb := chain5 hb hA.1
    replace HB := Lib.hid (chain5 HB.out hbb)
    have O2 : Hid (ObB (boxes2 w2 ob p2 (.int .i64 0) (.int .i64 0)) w2.heap.size #[x0, x1, x2, x3, x4, x5, p2]) := by have := hA.2.1; rw [hz2] at this; exact this
    have E2 := Lib.hid hA.2.2
    have P2 : Hid (Pair (boxes2 w2 ob p2 (.int .i64 0) (.int .i64 0)) (fun b => b < (boxes2 w2 ob p2 (.int .i64 0) (.int .i64 0)).heap.size) ob p2) := hp.keep (fun b hb => Nat.lt_of_lt_of_le hb.2 hA.1.size) (fun b hb => hA.1.block b hb.2)
    have PP := Lib.hid hp
    clear hA hbb hb hp hz2
    go_upto_region 7 with (first | (refine storeV rfl (.tmp 4) (.tmp 19) rfl w2.heap.size ob p2 rfl rfl PP.out 47 _ (heap_old1 _ _ _) rfl ?_) | (refine EB.store (.tmp 5) (.tmp 20) rfl rfl (w2.heap.size + 1) 0 0 _ _ rfl rfl ((newE w2 _ _ _).row (by omega) _) ?_))
    unfold boxes2 at HB O2 E2 P2
    generalize (((w2.alloc (.cells #[.int .i64 0, .string ⟨#[]⟩, .string ⟨#[]⟩, .string ⟨#[]⟩, .string ⟨#[]⟩, .string ⟨#[]⟩, .slice none 0 0] 47)).alloc (.cells #[.int .i64 0, .int .i64 0] 26)).setRow w2.heap.size (cellsO ob p2).toArray).setRow (w2.heap.size + 1) #[.int .i64 0, .int .i64 0] = W3 at HB O2 E2 P2 ⊢
    obtain ⟨g2, hg2⟩ : ∃ g2, w2.heap.size + 1 = g2 := ⟨_, rfl⟩
    rw [hg2] at E2 ⊢
    clear hg2 PP
    generalize w2.heap.size = k2 at O2 ⊢
    go_wp2_with fail
    refine (packagesR _).mono ?_
    rintro e w4 ⟨x4', rfl, hx4, hb4⟩
    have KR := Lib.hid (oneR5 s ⟨#[117, 115, 101, 114]⟩ userM x4' w4 hx4 userB5 HSM.out)
    rw [hR] at KR
    replace HB := Lib.hid (chain5 HB.out hb4)
    replace E2 := Lib.hid (E2.out.keep hb4)
    replace O2 := Lib.hid (O2.out.keep hb4)
    replace P2 : Hid (Pair w4 (fun b => b < w4.heap.size) ob p2) := P2.out.keep (fun b hb => Nat.lt_of_lt_of_le hb hb4.size) (fun b hb => hb4.block b hb)
    clear hx4 hb4 hR
    go_wp2_with fail
    refine KR.out.mono ?_
    rintro e w5 ⟨hb, p5, rfl, hp⟩
    clear KR
    obtain ⟨y0, y1, y2, y3, y4, y5, hz5⟩ := cells7 ob p5
    have HZ5 : Hid (Val7 ob p5 y0 y1 y2 y3 y4 y5) := hz5
    have hA := boxes2_spec w5 ob p5 (.int .i64 0) (.int .i64 0)
    have hbb := chain5 hb hA.1
    replace HB := Lib.hid (chain5 HB.out hbb)
    replace O2 := Lib.hid (O2.out.keep hbb)
    replace E2 := Lib.hid (E2.out.keep hbb)
    replace P2 : Hid (Pair (boxes2 w5 ob p5 (.int .i64 0) (.int .i64 0)) (fun b => b < (boxes2 w5 ob p5 (.int .i64 0) (.int .i64 0)).heap.size) ob p2) := P2.out.keep (fun b hb => Nat.lt_of_lt_of_le hb hbb.size) (fun b hb => hbb.block b hb)
    have O5 : Hid (ObB (boxes2 w5 ob p5 (.int .i64 0) (.int .i64 0)) w5.heap.size #[y0, y1, y2, y3, y4, y5, p5]) := by have := hA.2.1; rw [hz5] at this; exact this
    have E5 := Lib.hid hA.2.2
    have P5 : Hid (Pair (boxes2 w5 ob p5 (.int .i64 0) (.int .i64 0)) (fun b => b < (boxes2 w5 ob p5 (.int .i64 0) (.int .i64 0)).heap.size) ob p5) := hp.keep (fun b hb => Nat.lt_of_lt_of_le hb.2 hA.1.size) (fun b hb => hA.1.block b hb.2)
    have PP := Lib.hid hp
    clear hA hbb hb hp hz5
    go_upto_region 8 with (first | (refine storeV rfl (.tmp 6) (.tmp 25) rfl w5.heap.size ob p5 rfl rfl PP.out 47 _ (heap_old1 _ _ _) rfl ?_) | (refine EB.store (.tmp 7) (.tmp 26) rfl rfl (w5.heap.size + 1) 0 0 _ _ rfl rfl ((newE w5 _ _ _).row (by omega) _) ?_))
    unfold boxes2 at HB O5 E5 P5 O2 E2 P2
    generalize (((w5.alloc (.cells #[.int .i64 0, .string ⟨#[]⟩, .string ⟨#[]⟩, .string ⟨#[]⟩, .string ⟨#[]⟩, .string ⟨#[]⟩, .slice none 0 0] 47)).alloc (.cells #[.int .i64 0, .int .i64 0] 26)).setRow w5.heap.size (cellsO ob p5).toArray).setRow (w5.heap.size + 1) #[.int .i64 0, .int .i64 0] = W6 at HB O5 E5 P5 O2 E2 P2 ⊢
    obtain ⟨g5, hg5⟩ : ∃ g5, w5.heap.size + 1 = g5 := ⟨_, rfl⟩
    rw [hg5] at E5 ⊢
    clear hg5 PP
    generalize w5.heap.size = k5 at O5 ⊢
    have call := equalO ob ob p2 p5 W6 _ (fun b h => h) P2.out P5.out
    unfold vO at call
    rw [HZ2.out, HZ5.out, decide_eq_true rfl] at call
    have CALL := Lib.hid call
    clear call
    have c0 := E2.out.c0
    have c1 := E2.out.c1
    have d0 := E5.out.c0
    have d1 := E5.out.c1
    obtain ⟨m0, m1, m2, m3, m4, m5, m6⟩ := O2.out.c
    obtain ⟨l0, l1, l2, l3, l4, l5, l6⟩ := O5.out.c
    go_wp2_with fail
    refine CALL.out.mono ?_
    rintro e w7 ⟨rfl, hb7⟩
    have HB7 := Lib.hid (chain5 HB.out hb7)
    clear hb7 c0 c1 d0 d1 m0 m1 m2 m3 m4 m5 m6 l0 l1 l2 l3 l4 l5 l6
    go_wp2
    go_ret
    exact ⟨rfl, HB7.out⟩
end Go.Proofs.YtflnffgohbbhiaaGreatDoor
