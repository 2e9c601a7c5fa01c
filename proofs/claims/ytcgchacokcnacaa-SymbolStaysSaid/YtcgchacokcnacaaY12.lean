/- samePackages of two slices of one list. -/
import Derived.Test.YtcgchacokcnacaaY11
namespace Go.Proofs.Ytcgchacokcnacaa
open Go Go.RowKit
set_option linter.unusedVariables false

set_option maxHeartbeats 8000000 in
set_option maxRecDepth 100000 in
theorem samePY (l : List Pg) (v v' : Value) (w : World) (hv : PgV w l v) (hv' : PgV w l v') (hl : l.length ≤ 1000) (hi0 : ∀ p ∈ l, p.2.length ≤ 1000) : Calls Try.prog 14 #[v, v'] w (RetY w (.bool true)) := by
  obtain ⟨A, c, rfl, hlc, hcm, hA⟩ := hv
  obtain ⟨A', c', rfl, hlc', hcm', hA'⟩ := hv'
  have HA := Lib.hid hA
  have HA' := Lib.hid hA'
  clear hA hA'
  obtain ⟨L, hL⟩ : ∃ L, l.length = L := ⟨_, rfl⟩
  rw [hL] at hlc hlc' hl ⊢
  have HI0 := Lib.hid hi0
  clear hi0
  have HL := Lib.hid hL
  clear hL
  have H0 : Hid (Below w.heap.size w w) := Below.refl _ _
  go_enter Try.func14, Try.ntmps14
  go_wp2_with fail
  go_loopw [5] (fun v wr => ∃ (i : Nat), i ≤ L ∧ v = .int .i64 i ∧ Hid (Below w.heap.size w wr)) (fun v _ => L - (intOf v).toNat)
  case atStart => exact ⟨0, Nat.zero_le _, rfl, H0⟩
  case round =>
    obtain ⟨i, hi, rfl, HB⟩ := hrel
    obtain ⟨wo, rfl⟩ : ∃ wo : World, wo = wr := ⟨_, rfl⟩
    clear H0
    by_cases hiL : i < L
    · have hil : i < l.length := by rw [HL.out]; exact hiL
      obtain ⟨b, o, rfl, hbw, hcell⟩ := HA.out (by omega)
      obtain ⟨b', o', rfl, hbw', hcell'⟩ := HA'.out (by omega)
      obtain ⟨k0, u, k1, hu⟩ := hcell i hil
      obtain ⟨k0', u', k1', hu'⟩ := hcell' i hil
      have l0 := (HB.out.cell (p := ⟨b, o + i * 2, none⟩) hbw).trans k0
      have l1 := (HB.out.cell (p := ⟨b, o + i * 2 + 1, none⟩) hbw).trans k1
      have l0' := (HB.out.cell (p := ⟨b', o' + i * 2, none⟩) hbw').trans k0'
      have l1' := (HB.out.cell (p := ⟨b', o' + i * 2 + 1, none⟩) hbw').trans k1'
      clear hcell hcell' k0 k0'
      generalize l[i].1 = p1 at l0 l0'
      have hql := HI0.out l[i] (List.getElem_mem hil)
      obtain ⟨q, hq⟩ : ∃ q, l[i].2 = q := ⟨_, rfl⟩
      rw [hq] at hu hu' hql
      clear hq
      obtain ⟨A1, c1, rfl, hqc, hqm, hq1⟩ := hu
      obtain ⟨A2, c2, rfl, hqc2, hqm2, hq2⟩ := hu'
      have HQ1 := Lib.hid hq1
      have HQ2 := Lib.hid hq2
      have HK1 := Lib.hid k1
      have HK1' := Lib.hid k1'
      clear hq1 hq2 k1 k1'
      obtain ⟨M, hM⟩ : ∃ M, q.length = M := ⟨_, rfl⟩
      rw [hM] at l1 l1' hql hqc hqc2 HK1 HK1'
      have HM := Lib.hid hM
      clear hM
      have hself : (p1.toList == p1.toList) = true := beq_self_eq_true _
      have hi1 : (0 : Int) ≤ (i : Int) := by omega
      have hi2 : (i : Int) < (L : Int) := by omega
      go_wp2_with fail
      go_quiet (fail)
      go_wp2_with fail
      have HB2 : Hid (Below w.heap.size w (wo.drewN nq)) := HB.out.trans (⟨rfl, rfl, rfl, Nat.le_refl _, fun _ _ => rfl⟩ : Below w.heap.size wo (wo.drewN nq))
      clear l0 l1 l0' l1' hself
      generalize wo.drewN nq = wq at HB2 ⊢
      go_loopw [6] (fun v wr => ∃ (k : Nat), k ≤ M ∧ v = .int .i64 k ∧ Hid (Below w.heap.size w wr)) (fun v _ => M - (intOf v).toNat)
      case atStart => exact ⟨0, Nat.zero_le _, rfl, HB2⟩
      case round =>
        obtain ⟨k, hk, rfl, HB3⟩ := hrel
        obtain ⟨wi, rfl⟩ : ∃ wi : World, wi = wr := ⟨_, rfl⟩
        clear HB2 HB
        have l1 := (HB3.out.cell (p := ⟨b, o + i * 2 + 1, none⟩) hbw).trans HK1.out
        have l1' := (HB3.out.cell (p := ⟨b', o' + i * 2 + 1, none⟩) hbw').trans HK1'.out
        by_cases hkM : k < M
        · have hkq : k < q.length := by rw [HM.out]; exact hkM
          obtain ⟨b1, o1, rfl, hbw1, hc1⟩ := HQ1.out (by omega)
          obtain ⟨b2, o2, rfl, hbw2, hc2⟩ := HQ2.out (by omega)
          obtain ⟨j0, j1⟩ := hc1 k hkq
          obtain ⟨i0, i1⟩ := hc2 k hkq
          have n0 := (HB3.out.cell (p := ⟨b1, o1 + k * 2, none⟩) hbw1).trans j0
          have n1 := (HB3.out.cell (p := ⟨b1, o1 + k * 2 + 1, none⟩) hbw1).trans j1
          have n0' := (HB3.out.cell (p := ⟨b2, o2 + k * 2, none⟩) hbw2).trans i0
          have n1' := (HB3.out.cell (p := ⟨b2, o2 + k * 2 + 1, none⟩) hbw2).trans i1
          clear hc1 hc2 j0 j1 i0 i1
          generalize q[k].1 = s1 at n0 n0'
          generalize q[k].2 = s2 at n1 n1'
          have hs1 : (s1.toList == s1.toList) = true := beq_self_eq_true _
          have hs2 : (s2.toList == s2.toList) = true := beq_self_eq_true _
          have hk1 : (0 : Int) ≤ (k : Int) := by omega
          have hk2 : (k : Int) < (M : Int) := by omega
          go_wp2_with fail
          go_quiet (fail)
          go_wp2_with fail
          go_roundw
          case rel => exact ⟨k + 1, by omega, by go_num, HB3.out.trans (⟨rfl, rfl, rfl, Nat.le_refl _, fun _ _ => rfl⟩ : Below w.heap.size wi (wi.drewN nq))⟩
          case measure => simp [intOf]; omega
        · go_wp2_with fail
          go_roundw
          case rel => exact ⟨i + 1, by omega, by go_num, HB3⟩
          case measure => simp [intOf]; omega
    · go_wp2_with fail
      go_ret
      exact ⟨rfl, HB.out⟩
end Go.Proofs.Ytcgchacokcnacaa
