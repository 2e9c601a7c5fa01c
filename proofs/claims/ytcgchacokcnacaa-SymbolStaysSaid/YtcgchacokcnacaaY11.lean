/- Initial of both, few, made. -/
import Derived.Test.YtcgchacokcnacaaY10
namespace Go.Proofs.Ytcgchacokcnacaa
open Go Go.RowKit
set_option linter.unusedVariables false

/-- A list of packages is returned. -/
def RetPg (w : World) (l : List Pg) (e : Ending) (w' : World) : Prop := ∃ x, e = .returned x ∧ PgV w' l x ∧ Below w.heap.size w w'
def initM : List Pg := [(⟨#[108, 105, 115, 112]⟩, [])]
theorem iniP (w : World) : PgV (w.alloc (.cells #[.string ⟨#[108, 105, 115, 112]⟩, .slice none 0 0] 33)) initM (.slice (some ⟨w.heap.size, 0, none⟩) 1 1) :=
  PgV.of_row (row := [.string ⟨#[108, 105, 115, 112]⟩, .slice none 0 0]) (l := initM) (heap_alloc_new w _) (Nat.le_refl _) (by unfold maxLen; omega) (fun i hi => by
    have e : i = 0 := by simp [initM] at hi; omega
    subst e
    exact ⟨rfl, _, rfl, SyV.nil _⟩)
set_option maxHeartbeats 4000000 in
set_option maxRecDepth 100000 in
theorem initialY (w : World) : Calls Try.prog 15 #[] w (RetPg w initM) := by
  go_enter Try.func15, Try.ntmps15
  go_wp2_with fail
  go_ret
  exact ⟨_, rfl, iniP w, bAlP w _⟩
set_option maxHeartbeats 4000000 in
set_option maxRecDepth 100000 in
theorem initialRY (w : World) : Calls Try.prog 16 #[] w (RetPg w initM) := by
  go_enter Try.func16, Try.ntmps16
  go_wp2_with fail
  go_ret
  exact ⟨_, rfl, iniP w, bAlP w _⟩

def fewM (l : List Pg) : Bool := decide (l.length ≤ 5) && l.all (fun p => decide (p.2.length ≤ 6))
def FewW (w wr : World) (l : List Pg) (i : Nat) (R : Bool) : Prop := ((l.drop i).all (fun p => decide (p.2.length ≤ 6))) = R ∧ wr = w
set_option maxHeartbeats 4000000 in
set_option maxRecDepth 100000 in
theorem fewY (l : List Pg) (v : Value) (w : World) (hv : PgV w l v) : Calls Try.prog 17 #[v] w (RetY w (.bool (fewM l))) := by
  obtain ⟨A, c, rfl, hlc, hcm, hA⟩ := hv
  have HA := Lib.hid hA
  clear hA
  obtain ⟨R, hR⟩ : ∃ R, fewM l = R := ⟨_, rfl⟩
  rw [hR]
  unfold fewM at hR
  obtain ⟨L, hL⟩ : ∃ L, l.length = L := ⟨_, rfl⟩
  rw [hL] at hlc hR ⊢
  have HL := Lib.hid hL
  clear hL
  by_cases h5 : 5 < L
  · have hr : R = false := by rw [← hR, decide_eq_false (by omega), Bool.false_and]
    subst hr
    have h6 : (5 : Int) < (L : Int) := by omega
    clear hR
    go_enter Try.func17, Try.ntmps17
    go_wp2_with fail
    go_ret
    exact ⟨rfl, Below.refl _ _⟩
  · have h6 : ¬ (5 : Int) < (L : Int) := by omega
    rw [decide_eq_true (by omega), Bool.true_and] at hR
    have H0 : Hid (FewW w w l 0 R) := ⟨by rw [List.drop_zero]; exact hR, rfl⟩
    clear hR
    go_enter Try.func17, Try.ntmps17
    go_wp2_with fail
    go_loopw [3] (fun v wr => ∃ (i : Nat), i ≤ L ∧ v = .int .i64 i ∧ Hid (FewW w wr l i R)) (fun v _ => L - (intOf v).toNat)
    case atStart => exact ⟨0, Nat.zero_le _, rfl, H0⟩
    case round =>
      obtain ⟨i, hi, rfl, hE⟩ := hrel
      obtain ⟨wo, rfl⟩ : ∃ wo : World, wo = wr := ⟨_, rfl⟩
      obtain ⟨hf, rfl⟩ := hE.out
      clear hE H0
      have HF := Lib.hid hf
      clear hf
      by_cases hiL : i < L
      · have hil : i < l.length := by rw [HL.out]; exact hiL
        obtain ⟨b, o, rfl, hbw, hcell⟩ := HA.out (by omega)
        obtain ⟨k0, u, l1, hu⟩ := hcell i hil
        obtain ⟨A1, c1, rfl, hk1, hk2, _⟩ := hu
        have step : ((l.drop i).all (fun p => decide (p.2.length ≤ 6))) = (decide (l[i].2.length ≤ 6) && (l.drop (i + 1)).all (fun p => decide (p.2.length ≤ 6))) := by rw [List.drop_eq_getElem_cons hil]; rfl
        rw [HF.out] at step
        clear k0 hcell HF
        generalize l[i].2.length = k at l1 hk1 hk2 step
        by_cases hk : 6 < k
        · have hk6 : (6 : Int) < (k : Int) := by omega
          have hr : R = false := by rw [step, decide_eq_false (by omega), Bool.false_and]
          subst hr
          clear step
          go_wp2_with fail
          go_ret
          exact ⟨rfl, Below.refl _ _⟩
        · have hk6 : ¬ (6 : Int) < (k : Int) := by omega
          rw [decide_eq_true (by omega), Bool.true_and] at step
          replace step := Lib.hid step
          go_wp2_with fail
          go_roundw
          case rel => exact ⟨i + 1, by omega, by go_num, ⟨step.out.symm, rfl⟩⟩
          case measure => simp [intOf]; omega
      · have hr : R = true := by
          rw [← HF.out, List.drop_eq_nil_of_le (by rw [HL.out]; omega)]
          rfl
        subst hr
        clear HF
        go_wp2_with fail
        go_ret
        exact ⟨rfl, Below.refl _ _⟩
theorem fewM_spec {l : List Pg} (h : fewM l = true) : l.length ≤ 5 ∧ ∀ p ∈ l, p.2.length ≤ 6 := by
  unfold fewM at h
  rw [Bool.and_eq_true, decide_eq_true_eq, List.all_eq_true] at h
  exact ⟨h.1, fun p hp => by simpa using h.2 p hp⟩
/-- What made does with one package. -/
def madeS (out : List Pg) (p : Pg) : List Pg := if chkPkg out p = 0 then out ++ [p] else out
def madeM (l : List Pg) : List Pg := l.foldl madeS initM
def MadW (w wr : World) (l : List Pg) (x : Value) (cur : List Pg) (i : Nat) (R : List Pg) : Prop :=
  (l.drop i).foldl madeS cur = R ∧ Below w.heap.size w wr ∧ PgV wr cur x ∧ cur.length ≤ i + 1 ∧ (∀ p ∈ cur, p.2.length ≤ 6)
set_option maxHeartbeats 8000000 in
set_option maxRecDepth 100000 in
theorem madeY (l : List Pg) (v : Value) (w : World) (hv : PgV w l v) (hf : fewM l = true) : Calls Try.prog 18 #[v] w (RetPg w (madeM l)) := by
  obtain ⟨hl5, hl6⟩ := fewM_spec hf
  have HQ := Lib.hid hl6
  clear hf hl6
  obtain ⟨A, c, rfl, hlc, hcm, hA⟩ := hv
  have HA := Lib.hid hA
  clear hA
  obtain ⟨R, hR⟩ : ∃ R, madeM l = R := ⟨_, rfl⟩
  rw [hR]
  unfold madeM at hR
  have HR := Lib.hid hR
  obtain ⟨L, hL⟩ : ∃ L, l.length = L := ⟨_, rfl⟩
  rw [hL] at hlc hl5 ⊢
  have HL := Lib.hid hL
  clear hL hR
  go_enter Try.func18, Try.ntmps18
  go_wp2_with fail
  refine (initialRY _).mono ?_
  rintro e w0 ⟨x0, rfl, hx0, hb0⟩
  have H0 : Hid (MadW w w0 l x0 initM 0 R) := ⟨by rw [List.drop_zero]; exact HR.out, hb0, hx0, by simp [initM], by simp [initM]⟩
  clear hx0 hb0 HR
  go_wp2_with fail
  go_loopw [3, 4] (fun x v wr => ∃ (i : Nat) (cur : List Pg), i ≤ L ∧ v = .int .i64 i ∧ Hid (MadW w wr l x cur i R)) (fun _ v _ => L - (intOf v).toNat)
  case atStart => exact ⟨0, initM, Nat.zero_le _, rfl, H0⟩
  case round =>
    obtain ⟨i, cur, hi, rfl, hE⟩ := hrel
    obtain ⟨wo, rfl⟩ : ∃ wo : World, wo = wr := ⟨_, rfl⟩
    obtain ⟨hfo, hb, hx, hcl, hcq⟩ := hE.out
    clear hE H0
    have HF := Lib.hid hfo
    have HB := Lib.hid hb
    have HX := Lib.hid hx
    have HC := Lib.hid hcq
    clear hfo hb hx hcq
    by_cases hiL : i < L
    · have hil : i < l.length := by rw [HL.out]; exact hiL
      obtain ⟨b, o, rfl, hbw, hcell⟩ := HA.out (by omega)
      obtain ⟨k0, u, k1, hu⟩ := hcell i hil
      have hq6 := HQ.out l[i] (List.getElem_mem hil)
      have step : (l.drop i).foldl madeS cur = (l.drop (i + 1)).foldl madeS (madeS cur l[i]) := by rw [List.drop_eq_getElem_cons hil]; rfl
      rw [HF.out] at step
      have l0 := (HB.out.cell (p := ⟨b, o + i * 2, none⟩) hbw).trans k0
      have l1 := (HB.out.cell (p := ⟨b, o + i * 2 + 1, none⟩) hbw).trans k1
      have HU := Lib.hid (hu.keep HB.out)
      clear k0 k1 hcell HF hu
      have ep : l[i] = (l[i].1, l[i].2) := rfl
      rw [ep] at step hq6
      clear ep
      generalize l[i].1 = p1 at l0 step hq6
      generalize l[i].2 = p2 at HU step hq6
      have CD : Hid (Calls Try.prog 20 #[_, .agg #[.string p1, u]] wo (RetD wo (defineM cur (p1, p2)))) := defineRY cur _ p1 p2 u wo HX.out HU.out (by omega) (fun p hp => by have := HC.out p hp; omega) (by have : p2.length ≤ 6 := hq6; omega)
      have HS := Lib.hid step
      clear step
      by_cases hch : chkPkg cur (p1, p2) = 0
      · have hd : defineM cur (p1, p2) = (cur ++ [(p1, p2)], 0) := by unfold defineM; rw [if_pos hch]
        rw [hd] at CD
        clear hd
        go_wp2_with fail
        refine CD.out.mono ?_
        rintro e w2 ⟨y, rfl, hy, hb2⟩
        have HY := Lib.hid hy
        have HB2 := Lib.hid (chainY HB.out hb2 (Nat.le_refl _))
        clear hy hb2
        go_wp2_with fail
        go_roundw
        case rel =>
          refine ⟨i + 1, cur ++ [(p1, p2)], by omega, by go_num, ⟨?_, HB2.out, HY.out, by rw [List.length_append, List.length_singleton]; omega, fun p hp => ?_⟩⟩
          · rw [HS.out]; unfold madeS; rw [if_pos hch]
          · rcases List.mem_append.1 hp with h | h
            · exact HC.out p h
            · rw [List.mem_singleton] at h; subst h; exact hq6
        case measure => simp [intOf]; omega
      · have hd : defineM cur (p1, p2) = ([], chkPkg cur (p1, p2)) := by unfold defineM; rw [if_neg hch]
        rw [hd] at CD
        clear hd
        have HS2 : Hid (R = (l.drop (i + 1)).foldl madeS cur) := by
          show _ = _
          rw [HS.out]; unfold madeS; rw [if_neg hch]
        clear HS
        generalize chkPkg cur (p1, p2) = r at CD hch
        go_wp2_with fail
        refine CD.out.mono ?_
        rintro e w2 ⟨y, rfl, hy, hb2⟩
        have HX2 := Lib.hid (HX.out.keep hb2)
        have HB2 := Lib.hid (chainY HB.out hb2 (Nat.le_refl _))
        clear hy hb2
        go_wp2_with fail
        go_roundw
        case rel => exact ⟨i + 1, cur, by omega, by go_num, ⟨HS2.out.symm, HB2.out, HX2.out, by omega, HC.out⟩⟩
        case measure => simp [intOf]; omega
    · have hr : Hid (cur = R) := by
        show _ = _
        rw [← HF.out, List.drop_eq_nil_of_le (by rw [HL.out]; omega)]
        rfl
      clear HF
      go_wp2_with fail
      go_ret
      rw [← hr.out]
      exact ⟨_, rfl, HX.out, HB.out⟩
end Go.Proofs.Ytcgchacokcnacaa
