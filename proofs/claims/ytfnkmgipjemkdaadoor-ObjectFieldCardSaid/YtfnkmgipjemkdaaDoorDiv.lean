/- number.divideNaturals: the digits of the quotient and of the remainder. -/
import Derived.Test.YtfnkmgipjemkdaaDoorDivMath
import Derived.Test.YtfnkmgipjemkdaaDoorAdd
import Derived.Test.YtfnkmgipjemkdaaDoorSub
import Derived.Test.YtfnkmgipjemkdaaDoorCmp
import Derived.Deep.LoopGhost
namespace Go.Proofs.YtfnkmgipjemkdaaDoor
open Go Go.RowKit
set_option linter.unusedVariables false

/-- The call returned two slices of digits. -/
def RetDD (k : IntKind) (w : World) (p q : Nat) (e : Ending) (w' : World) : Prop :=
  ∃ A c A' c', e = .returned (.tuple #[.slice A (digs p).length c, .slice A' (digs q).length c']) ∧ (digs p).length ≤ c ∧ (digs q).length ≤ c' ∧ Reads w' w'.heap.size k A (digs p) ∧ Reads w' w'.heap.size k A' (digs q) ∧ Below w.heap.size w w'

set_option maxHeartbeats 400000 in
set_option maxRecDepth 100000 in
theorem divNat_small (A A' : Option Addr) (n m a b c d : Nat) (w : World) (ha : LenIs n a) (hb : LenIs m b) (h : Reads w w.heap.size .u8 A (digs n)) (hc : a ≤ c) (hab : a < b) :
    Calls Tryd.prog 38 #[.slice A a c, .slice A' b d] w (RetDD .u8 w (n / m) (n % m)) := by
  have hlt : n < m := lt_of_digs_length_lt (by unfold LenIs at ha hb; omega)
  have e1 : Hid (n / m = 0) := Nat.div_eq_of_lt hlt
  have e2 : Hid (n % m = n) := Nat.mod_eq_of_lt hlt
  have ha2 : Hid ((digs n).length = a) := ha
  clear hlt
  go_enter Tryd.func38, Tryd.ntmps38
  go_wp2
  go_ret2
  rw [e1.out, e2.out]
  exact ⟨none, 0, A, c, by rw [ha2.out]; rfl, Nat.le_refl _, by rw [ha2.out]; exact hc, Reads.nil_, h, Below.refl _ _⟩

/-- What a round of the outer loop leaves. -/
def DivW (n m a L g1 g2 s : Nat) (B : Nat) (w wr : World) : Prop :=
  ∃ qs rs, DivS n m qs rs L a s ∧ ofD rs < 10 ^ s * m ∧ Row wr g1 5 .u8 qs ∧ Row wr g2 5 .u8 rs ∧ Below B w wr
def DivX (n m a L g1 g2 S V : Nat) (B : Nat) (w wr : World) : Prop :=
  ∃ qs rs, DivT n m qs rs L a S ∧ restAt rs S = V ∧ Row wr g1 5 .u8 qs ∧ Row wr g2 5 .u8 rs ∧ Below B w wr

set_option maxHeartbeats 1000000 in
set_option maxRecDepth 100000 in
theorem divNat_big (A A' : Option Addr) (n m a b c d : Nat) (w : World) (ha : LenIs n a) (hb : LenIs m b) (h : Reads w w.heap.size .u8 A (digs n)) (h' : Reads w w.heap.size .u8 A' (digs m)) (h9 : a ≤ 1000000000) (hm : m ≠ 0) (hba : b ≤ a) :
    Calls Tryd.prog 38 #[.slice A a c, .slice A' b d] w (RetDD .u8 w (n / m) (n % m)) := by
  have hb0 : 0 < b := by rw [← show (digs m).length = b from hb]; exact List.length_pos_iff.2 (digs_ne_nil hm)
  have hdec : decide (a < b) = false := by simp; omega
  obtain ⟨x, rfl⟩ : ∃ x, A = some x := by
    obtain ⟨b1, o1, e, _⟩ := h (by unfold LenIs at ha; omega)
    exact ⟨_, e⟩
  obtain ⟨L, hL1, hL2, hL⟩ : ∃ L, L + b ≤ a + 1 ∧ a + 1 ≤ L + b ∧ Hid (a - b + 1 = L) := ⟨a - b + 1, by omega, by omega, rfl⟩
  have hmk := make8 L ((a : Int) - b + 1) (by omega) (by omega)
  have ha2 : Hid ((digs n).length = a) := ha
  go_enter Tryd.func38, Tryd.ntmps38
  go_wp2_with fail
  refine (clone_some x a c (digs n) _ ha (by simpa using h.alloc (Nat.le_refl _) _ |>.more (Nat.le_succ _)) (by omega)).mono ?_
  rintro e w1 ⟨g, c1, rfl, hg, hc1, hrow2, hbel1⟩
  rw [ha2.out] at hc1 ⊢
  have hrow1 : Row w1 w.heap.size 5 .u8 (zeros L) := (Row.new w 5 .u8 (zeros L)).below hbel1 (by simp)
  have hbelw : Below w.heap.size w w1 := ((Below.refl _ _).alloc (Nat.le_refl _) _).trans (hbel1.mono (by simp))
  have hg1 : w.heap.size < g := by have := hg; simp at this; omega
  have hstart := DivS.start n m ha hb hm hba
  rw [hL.out] at hstart
  have hinit : DivW n m a L w.heap.size g L w.heap.size w w1 := ⟨_, _, hstart.1, hstart.2, hrow1, hrow2, hbelw⟩
  clear hmk hrow1 hrow2 hstart hbel1 hbelw hg h
  replace hinit := Lib.hid hinit
  go_wp2
  go_loopw [28] (fun v wr => ∃ i : Nat, i ≤ L ∧ v = .int .i64 i ∧ Hid (DivW n m a L w.heap.size g (L - i) w.heap.size w wr)) (fun v _ => L - (intOf v).toNat)
  case atStart => exact ⟨0, Nat.zero_le _, rfl, hinit⟩
  case round =>
    clear hinit
    obtain ⟨i, hi, rfl, hdw⟩ := hrel
    obtain ⟨wo, rfl⟩ : ∃ wo : World, wo = wr := ⟨_, rfl⟩
    by_cases hiL : i < L
    · obtain ⟨qs, rs, hds, hlt, hr1, hr2, hbel⟩ := hdw.out
      have hT : DivT n m qs rs L a (L - 1 - i) := DivS.enter (by rw [show L - 1 - i + 1 = L - i from by omega]; exact hds) (by rw [show L - 1 - i + 1 = L - i from by omega]; exact hlt)
      clear hds hlt hdw
      replace hT := Lib.hid hT
      by_cases hi0 : i = 0
      · have hmn : a < L - 1 - i + b + 1 := by omega
        clear hi0
        go_wp2_with fail
        refine (trim_any _ (seg rs (L - 1 - i) (a)) (restAt rs (L - 1 - i)) _ _ _ _ (hT.out.seg_val hb (by omega) (by omega) (by omega)) (seg_length _ _ _ (by rw [hT.out.base.lr]; omega)) (hr2.seg_reads hr2.lt _ _ (by rw [hT.out.base.lr]; omega)) (seg_dig hT.out.base.dr _ _) (by omega) (by omega)).mono ?_
        rintro e w2 ⟨rfl, rfl⟩
        have hx : Hid (DivX n m a L w.heap.size g (L - 1 - i) (restAt rs (L - 1 - i)) w.heap.size w wo) := ⟨qs, rs, hT.out, rfl, hr1, hr2, hbel⟩
        clear hT hr1 hr2 hbel
        go_wp2
        go_loopg [10] (restAt rs (L - 1 - i)) (fun k r wr => r = .slice (some ⟨g, L - 1 - i, none⟩) (digs k).length (c1 - (L - 1 - i)) ∧ Hid (DivX n m a L w.heap.size g (L - 1 - i) k w.heap.size w wr))
        case atStart => exact ⟨rfl, hx⟩
        case round =>
          clear hx
          obtain ⟨rfl, hx⟩ := hrel
          obtain ⟨qs2, rs2, hT, hV, hr1, hr2, hbel⟩ := hx.out
          clear hx
          replace hV := Lib.hid hV
          obtain ⟨zs, post, hrs, hzl, hzd, hzv, hpost⟩ := hT.parts (by omega)
          rw [hV.out] at hzl hzv
          have hzs : zs = digs gk := by
            rw [← hzv]
            exact (digs_of_len hzd (by rw [hzv]; exact hzl)).symm
          subst hzs
          have hpre : Hid ((rs2.take (L - 1 - i)).length = L - 1 - i) := by
            have := hT.base.lr
            show _ = _
            rw [List.length_take, this]; omega
          have hk9 : (digs gk).length ≤ a := by
            have h1 := congrArg List.length hrs
            rw [hT.base.lr] at h1
            simp only [List.length_append] at h1
            omega
          have hk8 : L - 1 - i + (digs gk).length ≤ a := by
            have h1 := congrArg List.length hrs
            rw [hT.base.lr] at h1
            have h2 := hpre.out
            simp only [List.length_append] at h1
            omega
          have hR : Reads wr wr.heap.size .u8 (some ⟨g, L - 1 - i, none⟩) (digs gk) := by
            refine Row.mid_reads (pre := rs2.take (L - 1 - i)) (post := post) (e := 5) ?_ hr2.lt hpre.out
            rw [← hrs]; exact hr2
          have hR' : Reads wr wr.heap.size .u8 A' (digs m) := (h'.below hbel).more hbel.size
          by_cases hlt : gk < m
          · have ho : ordN gk m = -1 := ordN_lt hlt
            have hend := hT.leave (by rw [hV.out]; exact hlt)
            have hw1 : Hid (DivW n m a L w.heap.size g (L - (i + 1)) w.heap.size w wr) := ⟨qs2, rs2, by rw [show L - (i + 1) = L - 1 - i from by omega]; exact hend.1, by rw [show L - (i + 1) = L - 1 - i from by omega]; exact hend.2, hr1, hr2, hbel⟩
            clear hend hr1 hr2 hT hbel hrs hV hzd hzv hpost hzl
            go_wp2_with fail
            refine (cmpNat_any _ _ gk m _ _ _ _ _ _ rfl hb hR hR' (by omega) (by omega)).mono ?_
            rintro e w3 ⟨rfl, nq, rfl⟩
            clear hR hR'
            go_wp2
            go_roundw
            case rel => exact ⟨i + 1, by omega, by go_num, by
              obtain ⟨q1, r1, a1, a2, a3, a4, a5⟩ := hw1.out
              exact ⟨q1, r1, a1, a2, a3.drewN _, a4.drewN _, below_drewN a5 _⟩⟩
            case measure => simp [intOf]; omega
          · have ho : 0 ≤ ordN gk m := by unfold ordN; split <;> (try split) <;> omega
            have hmk : m ≤ gk := by omega
            have hS9 : L - 1 - i < L := by omega
            replace hrs := Lib.hid hrs
            replace hT := Lib.hid hT
            replace hzv := Lib.hid hzv
            replace hzl := Lib.hid hzl
            replace hpost := Lib.hid hpost
            go_wp2_with fail
            refine (cmpNat_any _ _ gk m _ _ _ _ _ _ rfl hb hR hR' (by omega) (by omega)).mono ?_
            rintro e w3 ⟨rfl, nq, rfl⟩
            clear hR hR'
            go_wp2_with fail
            refine (takeAway_any g (rs2.take (L - 1 - i)) (digs gk) post A' m (L - 1 - i) (digs gk).length b (c1 - (L - 1 - i)) d w.heap.size _ hpre rfl hb (by rw [← hrs.out]; exact hr2.drewN _) hzd ((h'.below hbel).drewN _) (by omega) (by rw [ofD_digs]; exact hmk) (by omega)).mono ?_
            rintro e w4 ⟨rfl, ss, hss, hds, hval, hrow3, honly⟩
            have hstep := hT.out.step (by omega) hS9 hrs.out (by rw [hV.out]; exact hzv.out) hpost.out hss hds hval (by omega)
            rw [hV.out] at hstep
            have hbel4 : Below w.heap.size w w4 := (below_drewN hbel nq).trans (honly.below (by omega))
            have hr14 := (hr1.drewN nq).only honly (by omega)
            have hlt3 := hrow3.lt
            have hlt1 := hr14.lt
            have hst := hr14.cell (L - 1 - i) (by rw [hT.out.base.lq]; omega)
            have hfz := hr14.frozen (L - 1 - i)
            have z0 := dg_nonneg qs2 (L - 1 - i)
            have z1 := dg_lt hT.out.base.dq (L - 1 - i)
            have hr15 := hr14.set_ (L - 1 - i) (qs2.getD (L - 1 - i) 0 + 1) (dg qs2 (L - 1 - i) + 1) (by unfold dg; omega)
            have hrow4 := hrow3.far (p := ⟨w.heap.size, L - 1 - i, none⟩) (by show g ≠ w.heap.size; omega) (.int .u8 (dg qs2 (L - 1 - i) + 1))
            have hbel5 := hbel4.setCell (p := ⟨w.heap.size, L - 1 - i, none⟩) (Nat.le_refl _) (.int .u8 (dg qs2 (L - 1 - i) + 1))
            have hxx : Hid (DivX n m a L w.heap.size g (L - 1 - i) (gk - m) w.heap.size w (w4.setCell ⟨w.heap.size, L - 1 - i, none⟩ (.int .u8 (dg qs2 (L - 1 - i) + 1)))) := ⟨_, _, hstep.1, hstep.2.1, hr15, hrow4, hbel5⟩
            have hsv : Hid (ofD ss = gk - m) := hstep.2.2.1
            have hsl : Hid (ss.length = (digs gk).length) := hss
            have hRR : Reads w4 w4.heap.size .u8 (some ⟨g, L - 1 - i, none⟩) ss := hrow3.mid_reads hlt3 hpre.out
            clear hstep hbel4 hr15 hrow4 hbel5 hr14 hval hss hrow3 honly hr1 hr2 hbel
            go_wp2_with fail
            refine (trim_any _ ss (gk - m) _ (c1 - (L - 1 - i)) _ _ hsv.out hsl.out hRR hds (by omega) (by omega)).mono ?_
            rintro e w5 ⟨rfl, rfl⟩
            clear hRR
            go_wp2
            go_roundg (gk - m)
            case measure => omega
            case rel => exact ⟨rfl, hxx⟩
      · have hmn : L - 1 - i + b + 1 ≤ a := by omega
        go_wp2_with fail
        refine (trim_any _ (seg rs (L - 1 - i) (L - 1 - i + b + 1)) (restAt rs (L - 1 - i)) _ _ _ _ (hT.out.seg_val hb (by omega) (by omega) (by omega)) (seg_length _ _ _ (by rw [hT.out.base.lr]; omega)) (hr2.seg_reads hr2.lt _ _ (by rw [hT.out.base.lr]; omega)) (seg_dig hT.out.base.dr _ _) (by omega) (by omega)).mono ?_
        rintro e w2 ⟨rfl, rfl⟩
        have hx : Hid (DivX n m a L w.heap.size g (L - 1 - i) (restAt rs (L - 1 - i)) w.heap.size w wo) := ⟨qs, rs, hT.out, rfl, hr1, hr2, hbel⟩
        clear hT hr1 hr2 hbel
        go_wp2
        go_loopg [10] (restAt rs (L - 1 - i)) (fun k r wr => r = .slice (some ⟨g, L - 1 - i, none⟩) (digs k).length (c1 - (L - 1 - i)) ∧ Hid (DivX n m a L w.heap.size g (L - 1 - i) k w.heap.size w wr))
        case atStart => exact ⟨rfl, hx⟩
        case round =>
          clear hx
          obtain ⟨rfl, hx⟩ := hrel
          obtain ⟨qs2, rs2, hT, hV, hr1, hr2, hbel⟩ := hx.out
          clear hx
          replace hV := Lib.hid hV
          obtain ⟨zs, post, hrs, hzl, hzd, hzv, hpost⟩ := hT.parts (by omega)
          rw [hV.out] at hzl hzv
          have hzs : zs = digs gk := by
            rw [← hzv]
            exact (digs_of_len hzd (by rw [hzv]; exact hzl)).symm
          subst hzs
          have hpre : Hid ((rs2.take (L - 1 - i)).length = L - 1 - i) := by
            have := hT.base.lr
            show _ = _
            rw [List.length_take, this]; omega
          have hk9 : (digs gk).length ≤ a := by
            have h1 := congrArg List.length hrs
            rw [hT.base.lr] at h1
            simp only [List.length_append] at h1
            omega
          have hk8 : L - 1 - i + (digs gk).length ≤ a := by
            have h1 := congrArg List.length hrs
            rw [hT.base.lr] at h1
            have h2 := hpre.out
            simp only [List.length_append] at h1
            omega
          have hR : Reads wr wr.heap.size .u8 (some ⟨g, L - 1 - i, none⟩) (digs gk) := by
            refine Row.mid_reads (pre := rs2.take (L - 1 - i)) (post := post) (e := 5) ?_ hr2.lt hpre.out
            rw [← hrs]; exact hr2
          have hR' : Reads wr wr.heap.size .u8 A' (digs m) := (h'.below hbel).more hbel.size
          by_cases hlt : gk < m
          · have ho : ordN gk m = -1 := ordN_lt hlt
            have hend := hT.leave (by rw [hV.out]; exact hlt)
            have hw1 : Hid (DivW n m a L w.heap.size g (L - (i + 1)) w.heap.size w wr) := ⟨qs2, rs2, by rw [show L - (i + 1) = L - 1 - i from by omega]; exact hend.1, by rw [show L - (i + 1) = L - 1 - i from by omega]; exact hend.2, hr1, hr2, hbel⟩
            clear hend hr1 hr2 hT hbel hrs hV hzd hzv hpost hzl
            go_wp2_with fail
            refine (cmpNat_any _ _ gk m _ _ _ _ _ _ rfl hb hR hR' (by omega) (by omega)).mono ?_
            rintro e w3 ⟨rfl, nq, rfl⟩
            clear hR hR'
            go_wp2
            go_roundw
            case rel => exact ⟨i + 1, by omega, by go_num, by
              obtain ⟨q1, r1, a1, a2, a3, a4, a5⟩ := hw1.out
              exact ⟨q1, r1, a1, a2, a3.drewN _, a4.drewN _, below_drewN a5 _⟩⟩
            case measure => simp [intOf]; omega
          · have ho : 0 ≤ ordN gk m := by unfold ordN; split <;> (try split) <;> omega
            have hmk : m ≤ gk := by omega
            have hS9 : L - 1 - i < L := by omega
            replace hrs := Lib.hid hrs
            replace hT := Lib.hid hT
            replace hzv := Lib.hid hzv
            replace hzl := Lib.hid hzl
            replace hpost := Lib.hid hpost
            go_wp2_with fail
            refine (cmpNat_any _ _ gk m _ _ _ _ _ _ rfl hb hR hR' (by omega) (by omega)).mono ?_
            rintro e w3 ⟨rfl, nq, rfl⟩
            clear hR hR'
            go_wp2_with fail
            refine (takeAway_any g (rs2.take (L - 1 - i)) (digs gk) post A' m (L - 1 - i) (digs gk).length b (c1 - (L - 1 - i)) d w.heap.size _ hpre rfl hb (by rw [← hrs.out]; exact hr2.drewN _) hzd ((h'.below hbel).drewN _) (by omega) (by rw [ofD_digs]; exact hmk) (by omega)).mono ?_
            rintro e w4 ⟨rfl, ss, hss, hds, hval, hrow3, honly⟩
            have hstep := hT.out.step (by omega) hS9 hrs.out (by rw [hV.out]; exact hzv.out) hpost.out hss hds hval (by omega)
            rw [hV.out] at hstep
            have hbel4 : Below w.heap.size w w4 := (below_drewN hbel nq).trans (honly.below (by omega))
            have hr14 := (hr1.drewN nq).only honly (by omega)
            have hlt3 := hrow3.lt
            have hlt1 := hr14.lt
            have hst := hr14.cell (L - 1 - i) (by rw [hT.out.base.lq]; omega)
            have hfz := hr14.frozen (L - 1 - i)
            have z0 := dg_nonneg qs2 (L - 1 - i)
            have z1 := dg_lt hT.out.base.dq (L - 1 - i)
            have hr15 := hr14.set_ (L - 1 - i) (qs2.getD (L - 1 - i) 0 + 1) (dg qs2 (L - 1 - i) + 1) (by unfold dg; omega)
            have hrow4 := hrow3.far (p := ⟨w.heap.size, L - 1 - i, none⟩) (by show g ≠ w.heap.size; omega) (.int .u8 (dg qs2 (L - 1 - i) + 1))
            have hbel5 := hbel4.setCell (p := ⟨w.heap.size, L - 1 - i, none⟩) (Nat.le_refl _) (.int .u8 (dg qs2 (L - 1 - i) + 1))
            have hxx : Hid (DivX n m a L w.heap.size g (L - 1 - i) (gk - m) w.heap.size w (w4.setCell ⟨w.heap.size, L - 1 - i, none⟩ (.int .u8 (dg qs2 (L - 1 - i) + 1)))) := ⟨_, _, hstep.1, hstep.2.1, hr15, hrow4, hbel5⟩
            have hsv : Hid (ofD ss = gk - m) := hstep.2.2.1
            have hsl : Hid (ss.length = (digs gk).length) := hss
            have hRR : Reads w4 w4.heap.size .u8 (some ⟨g, L - 1 - i, none⟩) ss := hrow3.mid_reads hlt3 hpre.out
            clear hstep hbel4 hr15 hrow4 hbel5 hr14 hval hss hrow3 honly hr1 hr2 hbel
            go_wp2_with fail
            refine (trim_any _ ss (gk - m) _ (c1 - (L - 1 - i)) _ _ hsv.out hsl.out hRR hds (by omega) (by omega)).mono ?_
            rintro e w5 ⟨rfl, rfl⟩
            clear hRR
            go_wp2
            go_roundg (gk - m)
            case measure => omega
            case rel => exact ⟨rfl, hxx⟩
    · obtain rfl : i = L := by omega
      obtain ⟨qs, rs, hds, hlt, hr1, hr2, hbel⟩ := hdw.out
      rw [Nat.sub_self] at hds hlt
      have hfin := hds.done hlt
      have hlt1 := hr1.lt
      have hlt2 := hr2.lt
      have hql : Hid (qs.length = i) := hds.lq
      have hrl : Hid (rs.length = a) := hds.lr
      have hq := Lib.hid hfin.1
      have hr := Lib.hid hfin.2
      have hdq := hds.dq
      have hdr := hds.dr
      have hR1 := hr1.reads hlt1
      have hR2 := hr2.reads hlt2
      clear hfin hds hlt hdw hr1 hr2
      go_wp2_with fail
      refine (trim_any _ qs (n / m) i i _ _ hq.out hql.out hR1 hdq (by omega) (by omega)).mono ?_
      rintro e w2 ⟨rfl, rfl⟩
      go_wp2_with fail
      refine (trim_any _ rs (n % m) a c1 _ _ hr.out hrl.out hR2 hdr (by omega) (by omega)).mono ?_
      rintro e w3 ⟨rfl, rfl⟩
      go_wp2
      go_ret2
      exact ⟨_, _, _, _, rfl, by
          have h1 := ofD_lt hdq
          rw [hq.out, hql.out] at h1
          exact digs_length_le h1, by
          have h1 := ofD_lt hdr
          rw [hr.out, hrl.out] at h1
          exact Nat.le_trans (digs_length_le h1) hc1, hR1.of_digs hdq hq.out, hR2.of_digs hdr hr.out, hbel⟩

theorem divNat_any (A A' : Option Addr) (n m a b c d : Nat) (w : World) (ha : LenIs n a) (hb : LenIs m b) (h : Reads w w.heap.size .u8 A (digs n)) (h' : Reads w w.heap.size .u8 A' (digs m)) (hc : a ≤ c) (h9 : a ≤ 1000000000) (hm : m ≠ 0) :
    Calls Tryd.prog 38 #[.slice A a c, .slice A' b d] w (RetDD .u8 w (n / m) (n % m)) := by
  by_cases hab : a < b
  · exact divNat_small A A' n m a b c d w ha hb h hc hab
  · exact divNat_big A A' n m a b c d w ha hb h h' h9 hm (by omega)

end Go.Proofs.YtfnkmgipjemkdaaDoor
