/- The reference's over: long division of digits. -/
import Derived.Test.YtclniebhgfodfaaDoorRef5
import Derived.Test.YtclniebhgfodfaaDoorDiv
namespace Go.Proofs.YtclniebhgfodfaaDoor
open Go Go.RowKit
set_option linter.unusedVariables false

/-- The state of the quotient's row and of the rest, between rounds. -/
def OW (n m a g p R : Nat) (A : Option Addr) (B : Nat) (w wr : World) : Prop :=
  ∃ qs, OInv n m qs a p R ∧ Row wr g 3 .i64 qs ∧ Reads wr wr.heap.size .i64 A (digs R) ∧ Below B w wr
def OX (n m a g p R : Nat) (A : Option Addr) (B : Nat) (w wr : World) : Prop :=
  ∃ qs, OIn n m qs a p R ∧ Row wr g 3 .i64 qs ∧ Reads wr wr.heap.size .i64 A (digs R) ∧ Below B w wr

theorem own_cons {w : World} {B p : Nat} {v : Value} {ns xs : List Nat} (h : w.ownsRow B 3 1 v (1 + xs.length) (.int .i64 (dg ns p) :: xs.map fun d : Nat => Value.int .i64 (d : Int))) : Own w B v (ns.getD p 0 :: xs) := by
  unfold Own
  rw [List.length_cons, Nat.add_comm]
  exact h
theorem cons_dig {n p R : Nat} : AllDig ((digs n).getD p 0 :: digs R) := by
  intro d hd
  rcases List.mem_cons.1 hd with e | e
  · rw [e]; exact (allDig_digs n).getD p
  · exact allDig_digs R d e
theorem cons_val (d R : Nat) : ofD (d :: digs R) = d + 10 * R := by rw [ofD, ofD_digs]
theorem ten_len {X m b : Nat} (hb : LenIs m b) (h : X < 10 * m) : (digs X).length ≤ b + 1 := by
  apply digs_length_le
  have := lt_pow_digs m
  rw [show (digs m).length = b from hb] at this
  rw [Nat.pow_succ]
  omega

set_option maxHeartbeats 4000000 in
theorem overR (A A' : Option Addr) (n m a b c d : Nat) (w : World) (ha : LenIs n a) (hb : LenIs m b) (h : Reads w w.heap.size .i64 A (digs n)) (h' : Reads w w.heap.size .i64 A' (digs m)) (h9 : a ≤ 1000000000) (h9' : b ≤ 1000000000) (hm : m ≠ 0) :
    Calls Tryd.prog 56 #[.slice A a c, .slice A' b d] w (RetDD .i64 w (n / m) (n % m)) := by
  have hmk := make64 a (a : Int) rfl (by omega)
  obtain ⟨i0, hi, hz0, hz1, hz2⟩ := info_parts infoI
  replace hi := Lib.hid hi
  replace hz0 := Lib.hid hz0
  replace hz1 := Lib.hid hz1
  replace hz2 := Lib.hid hz2
  go_enter Tryd.func56, Tryd.ntmps56
  go_wp2
  clear hmk
  go_loopw [7, 8] (fun u v wr => ∃ (k R : Nat) (E : Option Addr) (ce : Nat), k ≤ a ∧ v = .int .i64 ((k : Int) - 1) ∧ u = .slice E (digs R).length ce ∧ (digs R).length ≤ ce ∧ R < m ∧ Hid (OW n m a w.heap.size k R E w.heap.size w wr)) (fun _ v _ => (intOf v + 1).toNat)
  case atStart => exact ⟨a, 0, none, 0, Nat.le_refl _, rfl, rfl, Nat.le_refl _, by omega, zeros a, OInv.start n m a ha, Row.new _ _ _ _, Reads.nil_, (Below.refl _ _).alloc (Nat.le_refl _) _⟩
  case round =>
    obtain ⟨k, R, E, ce, hk, rfl, rfl, hRc, hRm, how⟩ := hrel
    obtain ⟨wo, rfl⟩ : ∃ wo : World, wo = wr := ⟨_, rfl⟩
    obtain ⟨qs, hinv, hrow, hread, hbel⟩ := how.out
    clear how
    by_cases hk0 : 0 < k
    · obtain ⟨b1, o1, rfl, hB1, hcell1⟩ := (h.below hbel) (by unfold LenIs at ha; omega)
      replace hcell1 := hcell1 (k - 1) (by unfold LenIs at ha; omega)
      have hp0 : (0 : Int) ≤ (k : Int) - 1 := by omega
      have hp1 : (k : Int) - 1 < a := by omega
      have x0 := dg_nonneg (digs n) (k - 1)
      have x1 := dg_lt (allDig_digs n) (k - 1)
      have hRl : (digs R).length ≤ b := by have := digs_length_mono (Nat.le_of_lt hRm); unfold LenIs at hb; omega
      have hin := OInv.enter (p := k - 1) (by rw [show k - 1 + 1 = k from by omega]; exact hinv) (by omega) hRm
      have hread1 := Lib.hid (hread.alloc (Nat.le_refl _) (.cells #[.int .i64 (dg (digs n) (k - 1))] 3))
      have hlit := Lib.hid (World.ownsRow_lit wo (e := 3) (size := 1) (base := wo.heap.size) #[.int .i64 (dg (digs n) (k - 1))] 1 (Nat.le_refl _) (by decide) rfl)
      have hbs := hbel.size
      have hrlt := hrow.lt
      replace hin := Lib.hid hin
      go_wp2_with (at_builtin; refine wpList_append_rd _ rfl (.tmp 23) (.tmp 24) 40 rfl wo.heap.size 3 i0 (.int .i64 0) 1 8 Tryd.underlying40 hi.out hz0.out hz1.out hz2.out rfl (by decide) rfl (.slice (some ⟨wo.heap.size, 0, none⟩) 1 1) 1 [.int .i64 (dg (digs n) (k - 1))] rfl hlit.out _ .i64 E (digs R).length ce (digs R) rfl rfl hread1.out ?c2 ?c3 (by simp) ?_)
      case c2 => unfold maxLen; omega
      case c3 => omega
      intro v1 w1 hown1 hg1
      have hown2 := own_cons hown1
      obtain ⟨E1, ce1, rfl, hce1, hR1⟩ := hown2.form
      have hb1 : Below wo.heap.size wo w1 := ((Below.refl _ _).alloc (Nat.le_refl _) _).grown hg1 (by simp) (fun q hq => by have hq2 : some wo.heap.size = some q := hq; injection hq2 with hq2; omega)
      have hrow1 := hrow.below hb1 hrlt
      have hbel1 : Below w.heap.size w w1 := hbel.trans (hb1.mono hbs)
      have hox : Hid (OX n m a w.heap.size (k - 1) ((digs n).getD (k - 1) 0 + 10 * R) E1 w.heap.size w w1) := ⟨qs, hin.out, hrow1, hR1.of_digs cons_dig (cons_val _ _), hbel1⟩
      have hl1 : (digs ((digs n).getD (k - 1) 0 + 10 * R)).length ≤ b + 1 := ten_len hb (Nat.lt_of_le_of_lt (Nat.le_add_right _ _) hin.out.room)
      have hLl : Hid (((digs n).getD (k - 1) 0 :: digs R).length = (digs R).length + 1) := List.length_cons
      rw [hLl.out] at hce1 ⊢
      have hlc1 : (digs ((digs n).getD (k - 1) 0 + 10 * R)).length ≤ ce1 := by
        have h1 := ofD_lt (cons_dig (n := n) (p := k - 1) (R := R))
        rw [cons_val, hLl.out] at h1
        exact Nat.le_trans (digs_length_le h1) hce1
      replace hR1 := Lib.hid hR1
      obtain ⟨R1, hR1e⟩ : ∃ R1, (digs n).getD (k - 1) 0 + 10 * R = R1 := ⟨_, rfl⟩
      have hval : Hid (ofD ((digs n).getD (k - 1) 0 :: digs R) = R1) := by show _ = _; rw [cons_val, hR1e]
      rw [hR1e] at hox hl1 hlc1
      clear hown1 hown2 hg1 hb1 hrow1 hbel1 hrow hread hbel hread1 hlit hin hR1e hinv
      go_wp2_with fail
      refine (trimR E1 ((digs n).getD (k - 1) 0 :: digs R) R1 _ ce1 _ _ hval.out hLl.out hR1.out cons_dig hce1 (by omega)).mono ?_
      rintro e w2 ⟨rfl, rfl⟩
      clear hR1
      go_wp2
      go_loopg [7] R1 (fun X u wr => ∃ (E : Option Addr) (ce : Nat), u = .slice E (digs X).length ce ∧ (digs X).length ≤ ce ∧ (digs X).length ≤ b + 1 ∧ Hid (OX n m a w.heap.size (k - 1) X E w.heap.size w wr))
      case atStart => exact ⟨E1, ce1, rfl, hlc1, hl1, hox⟩
      case round =>
        clear hox hl1 hlc1
        obtain ⟨E, ce, rfl, hXc, hXl, hox⟩ := hrel
        obtain ⟨qs2, hin, hrow, hread, hbel⟩ := hox.out
        clear hox
        have hm2 : Reads wr wr.heap.size .i64 A' (digs m) := (h'.below hbel).more hbel.size
        by_cases hlt : gk < m
        · have ho : ordN gk m = -1 := ordN_lt hlt
          have how : Hid (OW n m a w.heap.size (k - 1) gk E w.heap.size w wr) := ⟨qs2, hin.base, hrow, hread, hbel⟩
          go_wp2_with fail
          refine (orderR _ _ gk m _ _ _ _ _ _ rfl hb hread hm2 (by omega) (by omega)).mono ?_
          rintro e w3 ⟨rfl, nq, rfl⟩
          clear hread hm2 hrow hbel hin
          go_wp2
          go_roundw
          case rel => exact ⟨k - 1, gk, E, ce, by omega, by go_num, rfl, hXc, hlt, by
            obtain ⟨q1, a1, a2, a3, a4⟩ := how.out
            exact ⟨q1, a1, a2.drewN _, a3.drewN _, below_drewN a4 _⟩⟩
          case measure => simp [intOf]; omega
        · have ho : 0 ≤ ordN gk m := by unfold ordN; split <;> (try split) <;> omega
          have hle : m ≤ gk := by omega
          have hstep := hin.step (by omega) hle (by omega)
          have hql : Hid (qs2.length = a) := hin.base.lq
          have z0 := dg_nonneg qs2 (k - 1)
          have z1 := dg_lt hin.base.dq (k - 1)
          have hl2 : (digs (gk - m)).length ≤ b + 1 := by have := digs_length_mono (Nat.sub_le gk m); omega
          replace hin := Lib.hid hin
          replace hstep := Lib.hid hstep
          go_wp2_with fail
          refine (orderR _ _ gk m _ _ _ _ _ _ rfl hb hread hm2 (by omega) (by omega)).mono ?_
          rintro e w3 ⟨rfl, nq, rfl⟩
          go_wp2_with fail
          refine (minusR E A' gk m _ b ce d (wr.drewN nq) rfl hb hread hm2 (by omega) (by omega) hle).mono ?_
          rintro e w4 ⟨A4, c4, rfl, hc4, hR4, hb4, hF4⟩
          have hlt0 := hrow.lt
          have hrow4 := (hrow.drewN nq).below hb4 hlt0
          have hbel4 : Below w.heap.size w w4 := (below_drewN hbel nq).trans (hb4.mono hbel.size)
          have hs4 := hrow4.lt
          have hst := hrow4.cell (k - 1) (by have := hql.out; omega)
          have hfz := hrow4.frozen (k - 1)
          have hrow5 := hrow4.set_ (k - 1) (qs2.getD (k - 1) 0 + 1) (dg qs2 (k - 1) + 1) (by unfold dg; omega)
          have hbel5 := hbel4.setCell (p := ⟨w.heap.size, k - 1, none⟩) (Nat.le_refl _) (.int .i64 (dg qs2 (k - 1) + 1))
          have hR5 : Reads (w4.setCell ⟨w.heap.size, k - 1, none⟩ (.int .i64 (dg qs2 (k - 1) + 1))) (w4.setCell ⟨w.heap.size, k - 1, none⟩ (.int .i64 (dg qs2 (k - 1) + 1))).heap.size .i64 A4 (digs (gk - m)) := by
            have e : (w4.setCell ⟨w.heap.size, k - 1, none⟩ (.int .i64 (dg qs2 (k - 1) + 1))).heap.size = w4.heap.size := by simp [World.setCell]
            rw [e]
            exact hR4.far (fun x hx => Nat.lt_of_lt_of_le hlt0 (hF4 x hx)) _ _
          have hxx : Hid (OX n m a w.heap.size (k - 1) (gk - m) A4 w.heap.size w (w4.setCell ⟨w.heap.size, k - 1, none⟩ (.int .i64 (dg qs2 (k - 1) + 1)))) := ⟨_, hstep.out.1, hrow5, hR5, hbel5⟩
          clear hread hm2 hrow hbel hin hR5 hbel5 hrow5 hrow4 hbel4 hR4 hb4
          go_wp2
          go_roundg (gk - m)
          case measure => omega
          case rel => exact ⟨A4, c4, rfl, hc4, hl2, hxx⟩
    · obtain rfl : k = 0 := by omega
      have hfin := hinv.done hRm
      have hql : Hid (qs.length = a) := hinv.lq
      have hlt := hrow.lt
      have hQ := hrow.reads hlt
      have hdq := hinv.dq
      have hq := Lib.hid hfin.1
      have hr := Lib.hid hfin.2
      clear hfin hinv hrow
      go_wp2_with fail
      refine (trimR _ qs (n / m) a a _ _ hq.out hql.out hQ hdq (Nat.le_refl _) (by omega)).mono ?_
      rintro e w2 ⟨rfl, rfl⟩
      go_wp2
      go_ret2
      refine ⟨some ⟨w.heap.size, 0, none⟩, a, E, ce, ?_, ?_, ?_, hQ.of_digs hdq hq.out, ?_, hbel⟩
      · rw [← hr.out]; rfl
      · have h1 := ofD_lt hdq
        rw [hq.out, hql.out] at h1
        exact digs_length_le h1
      · rw [← hr.out]; exact hRc
      · rw [← hr.out]; exact hread

end Go.Proofs.YtclniebhgfodfaaDoor
