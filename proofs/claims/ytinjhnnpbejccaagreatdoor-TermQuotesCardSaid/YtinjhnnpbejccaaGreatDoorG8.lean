import Derived.Test.YtinjhnnpbejccaaGreatDoorAl
import Derived.Test.YtinjhnnpbejccaaGreatDoorG7
import Derived.Deep.LoopGhost
import Derived.Test.YtinjhnnpbejccaaGreatDoorG5
import Derived.Test.YtinjhnnpbejccaaGreatDoorG4
namespace Go.Proofs.YtinjhnnpbejccaaGreatDoor
open Go Go.RowKit
set_option linter.unusedVariables false
set_option maxHeartbeats 32000000
set_option maxRecDepth 100000
section
variable {P : Program} (w : World)
theorem run_append_of_nil (base : Nat) (t ty e : TypeId) (i : TypeInfo) (size : Nat) (ht : P.underlying t = some (.slice e)) (hi : P.info? e = some i)
 (v : Value) (n : Nat) (xs : List Value) (hown : w.ownsRow base e size v n xs) (c : Nat) : (Builtin.append_ #[t, t] ty #[v, .slice none 0 c]).run P w = .ok v w := by
 rcases hown.2 with ⟨rfl, rfl⟩ | ⟨g, cap, cur, rfl, _, _, hnc, _⟩
 · simp [Builtin.append_, run_underlying ht, sizeOf, typeInfo, hi, Builtin.lenOf, Builtin.firstCells]
 · simp [Builtin.append_, run_underlying ht, sizeOf, typeInfo, hi, Builtin.lenOf, Builtin.firstCells, hnc, storeCells]

theorem wpList_append_rd {ops : Array Oper} {rest : List Oper} {o : Oper} {a : Act} {Q : Exit → Act → World → Prop} (hgd : o.guard = none) (s x : Operand) (t : TypeId)
 (ho : o.op = .call { callee := .builtin .append, args := #[s, x], argTypes := #[t, t] })
 (base : Nat) (e : TypeId) (i : TypeInfo) (z : Value) (size bytes : Nat) (ht : P.underlying t = some (.slice e)) (hi : P.info? e = some i) (hz : i.zero = some z)
 (hsize : i.size = size) (hby : i.bytes = bytes) (hzs : z.cells.size = size) (hsz : 0 < size) (hs1 : size = 1)
 (v : Value) (n : Nat) (xs : List Value) (hs : a.eval s = v) (hown : w.ownsRow base e size v n xs)
 (B : Nat) (k : IntKind) (A : Option Addr) (m c : Nat) (ys : List Nat) (hx : a.eval x = .slice A m c) (hm : ys.length = m) (hr : Reads w B k A ys)
 (h63 : n + m ≤ maxLen) (hbytes : (n + m) * bytes ≤ 140737488355328) (hbase : base ≤ w.heap.size)
 (h : ∀ v' w', w'.ownsRow base e size v' (n + m) (xs ++ ys.map fun d : Nat => Value.int k (d : Int)) → w.grownBy w' v.ownBlock → wpList P ops Q rest (a.put o.dst v') w') : wpList P ops Q (o :: rest) a w := by
 cases A with
 | some ad =>
  exact wpList_append_own w hgd s x t ho base e i z size bytes ht hi hz hsize hby hzs hsz v n xs hs hown ad m c _ hx (by rw [List.length_map, hm, hs1, Nat.mul_one]) hr.cells (one_cells k ys) h63 hbytes hbase fun v' w' h1 h2 _ => h v' w' h1 h2
 | none =>
  have h0 : ys = [] := by
   cases ys with
   | nil => rfl
   | cons y l => obtain ⟨_, _, e, _⟩ := hr (by simp); cases e
  subst h0
  obtain rfl : m = 0 := hm.symm
  refine wpList_plain hgd fun K hK => ?_
  have hrun := run_append_of_nil (P := P) w base t o.type e i size ht hi v n xs hown c
  unfold Oper.wp execOp
  simp only [ho, resolve, invoke, builtin, Sem.run_bind, Sem.run_pure, Result.andThen_ok, List.map_toArray, List.map_cons, List.map_nil, hs, hx, hrun]
  exact hK _ _ (h v w (by simpa using hown) (World.grownBy.refl w _))
end
structure OInv (n m : Nat) (qs : List Nat) (a p R : Nat) : Prop where
 dq : AllDig qs
 lq : qs.length = a
 zero : ∀ j, j < p → qs.getD j 0 = 0
 val : ofD (qs.drop p) * m + R = n / 10 ^ p

theorem OInv.start (n m a : Nat) (ha : LenIs n a) : OInv n m (zeros a) a a 0 := by
 refine ⟨zeros_dig _, zeros_length _, fun j _ => zeros_get _ _, ?_⟩
 rw [List.drop_eq_nil_of_le (by rw [zeros_length]; exact Nat.le_refl _)]
 have := lt_pow_digs n
 rw [show (digs n).length = a from ha] at this
 rw [Nat.div_eq_of_lt this]
 simp [ofD]
theorem drop_digit (n p : Nat) : n / 10 ^ p = (digs n).getD p 0 + 10 * (n / 10 ^ (p + 1)) := by
 have key : ∀ p n, (digs n).getD p 0 = n / 10 ^ p % 10 := by
  intro p
  induction p with
  | zero =>
   intro n
   by_cases h : n = 0
   · subst h; rfl
   · rw [digs_pos h]; simp
  | succ p ih =>
   intro n
   by_cases h : n = 0
   · subst h; simp [digs_zero]
   · rw [digs_pos h, List.getD_cons_succ, ih, Nat.pow_succ', Nat.div_div_eq_div_mul]
 rw [key, Nat.pow_succ, ← Nat.div_div_eq_div_mul]
 omega
theorem drop_cons (qs : List Nat) (p : Nat) (h : p < qs.length) : ofD (qs.drop p) = qs.getD p 0 + 10 * ofD (qs.drop (p + 1)) := by
 rw [List.drop_eq_getElem_cons h, ofD, List.getD_eq_getElem?_getD, List.getElem?_eq_getElem h]
 rfl

structure OIn (n m : Nat) (qs : List Nat) (a p R : Nat) : Prop where
 base : OInv n m qs a p R
 room : R + qs.getD p 0 * m < 10 * m
theorem OInv.enter {n m a p R : Nat} {qs : List Nat} (h : OInv n m qs a (p + 1) R) (hp : p < a) (hR : R < m) : OIn n m qs a p ((digs n).getD p 0 + 10 * R) := by
 have hz := h.zero p (by omega)
 have hd := (allDig_digs n).getD p
 refine ⟨⟨h.dq, h.lq, fun j hj => h.zero j (by omega), ?_⟩, ?_⟩
 · have hv := h.val
   rw [drop_digit n p, drop_cons qs p (by rw [h.lq]; exact hp), hz, Nat.zero_add, Nat.mul_assoc]
   omega
 · rw [hz]; omega
theorem OIn.step {n m a p R : Nat} {qs : List Nat} (h : OIn n m qs a p R) (hp : p < a) (hle : m ≤ R) (hm : 0 < m) : OIn n m (qs.set p (qs.getD p 0 + 1)) a p (R - m) ∧ qs.getD p 0 + 1 < 10 := by
 have ht : qs.getD p 0 + 1 < 10 := by
  rcases Nat.lt_or_ge (qs.getD p 0 + 1) 10 with h1 | h1
  · exact h1
  · have h2 := Nat.mul_le_mul_right m h1
    rw [Nat.add_mul, Nat.one_mul] at h2
    have := h.room
    omega
 refine ⟨⟨⟨h.base.dq.set_ _ ht, by rw [List.length_set]; exact h.base.lq, fun j hj => by rw [getD_set_ne _ (by omega)]; exact h.base.zero j hj, ?_⟩, ?_⟩, ht⟩
 · have hv := h.base.val
   rw [drop_cons _ p (by rw [List.length_set, h.base.lq]; exact hp), getD_set_self _ (by rw [h.base.lq]; exact hp), List.drop_set, if_pos (by omega)]
   rw [drop_cons qs p (by rw [h.base.lq]; exact hp)] at hv
   rw [← hv]
   generalize ofD (qs.drop (p + 1)) = X
   simp only [Nat.add_mul, Nat.one_mul]
   omega
 · rw [getD_set_self _ (by rw [h.base.lq]; exact hp), Nat.add_mul, Nat.one_mul]
   have := h.room
   omega
theorem OInv.done {n m a R : Nat} {qs : List Nat} (h : OInv n m qs a 0 R) (hR : R < m) : ofD qs = n / m ∧ R = n % m := by
 have hv := h.val
 rw [List.drop_zero, Nat.pow_zero, Nat.div_one] at hv
 have hm : 0 < m := by omega
 constructor
 · rw [← hv, Nat.mul_comm, Nat.add_comm, Nat.add_mul_div_left _ _ hm, Nat.div_eq_of_lt hR, Nat.zero_add]
 · rw [← hv, Nat.mul_comm, Nat.mul_add_mod, Nat.mod_eq_of_lt hR]
def RetDD (k : IntKind) (w : World) (p q : Nat) (e : Ending) (w' : World) : Prop :=
 ∃ A c A' c', e = .returned (.tuple #[.slice A (digs p).length c, .slice A' (digs q).length c']) ∧ (digs p).length ≤ c ∧ (digs q).length ≤ c' ∧ Reads w' w'.heap.size k A (digs p) ∧ Reads w' w'.heap.size k A' (digs q) ∧ Below w.heap.size w w'

theorem divNat_small (A A' : Option Addr) (n m a b c d : Nat) (w : World) (ha : LenIs n a) (hb : LenIs m b) (h : Reads w w.heap.size .u8 A (digs n)) (hc : a ≤ c) (hab : a < b) :
 Calls Tryz.prog 207 #[.slice A a c, .slice A' b d] w (RetDD .u8 w (n / m) (n % m)) := by
 have hlt : n < m := lt_of_digs_length_lt (by unfold LenIs at ha hb; omega)
 have e1 : Hid (n / m = 0) := Nat.div_eq_of_lt hlt
 have e2 : Hid (n % m = n) := Nat.mod_eq_of_lt hlt
 have ha2 : Hid ((digs n).length = a) := ha
 clear hlt
 go_enter Tryz.func207, Tryz.ntmps207
 go_wp2
 go_ret2
 rw [e1.out, e2.out]
 exact ⟨none, 0, A, c, by rw [ha2.out]; rfl, Nat.le_refl _, by rw [ha2.out]; exact hc, Reads.nil_, h, Below.refl _ _⟩
def DivW (n m a L g1 g2 s : Nat) (B : Nat) (w wr : World) : Prop :=
 ∃ qs rs, DivS n m qs rs L a s ∧ ofD rs < 10 ^ s * m ∧ Row wr g1 5 .u8 qs ∧ Row wr g2 5 .u8 rs ∧ Below B w wr
def DivX (n m a L g1 g2 S V : Nat) (B : Nat) (w wr : World) : Prop :=
 ∃ qs rs, DivT n m qs rs L a S ∧ restAt rs S = V ∧ Row wr g1 5 .u8 qs ∧ Row wr g2 5 .u8 rs ∧ Below B w wr

theorem divNat_big (A A' : Option Addr) (n m a b c d : Nat) (w : World) (ha : LenIs n a) (hb : LenIs m b) (h : Reads w w.heap.size .u8 A (digs n)) (h' : Reads w w.heap.size .u8 A' (digs m)) (h9 : a ≤ 1000000000) (hm : m ≠ 0) (hba : b ≤ a) :
 Calls Tryz.prog 207 #[.slice A a c, .slice A' b d] w (RetDD .u8 w (n / m) (n % m)) := by
 have hb0 : 0 < b := by rw [← show (digs m).length = b from hb]; exact List.length_pos_iff.2 (digs_ne_nil hm)
 have hdec : decide (a < b) = false := by simp; omega
 obtain ⟨x, rfl⟩ : ∃ x, A = some x := by
  obtain ⟨b1, o1, e, _⟩ := h (by unfold LenIs at ha; omega)
  exact ⟨_, e⟩
 obtain ⟨L, hL1, hL2, hL⟩ : ∃ L, L + b ≤ a + 1 ∧ a + 1 ≤ L + b ∧ Hid (a - b + 1 = L) := ⟨a - b + 1, by omega, by omega, rfl⟩
 have hmk := make8 L ((a : Int) - b + 1) (by omega) (by omega)
 have ha2 : Hid ((digs n).length = a) := ha
 go_enter Tryz.func207, Tryz.ntmps207
 go_wp2_with fail
 refine (clone_some x a c (digs n) _ ha (by simpa using h.alloc (Nat.le_refl _) _ |>.more (Nat.le_succ _)) (by omega)).mono ?_
 rintro e w1 ⟨g, c1, rfl, hg, hc1, hrow2, hbel1⟩
 rw [ha2.out] at hc1 ⊢
 have hrow1 : Row w1 w.heap.size 5 .u8 (zeros L) := (Row.new w 5 .u8 (zeros L)).below hbel1 (by simp)
 have hbelw : Below w.heap.size w w1 := ((Below.refl _ _).alloc (Nat.le_refl _) _).trans (hbel1.mono (by simp))
 have hg1 : w.heap.size < g := by have := hg; simp at this; omega
 have hstart := DivS.start n m ha hb hm hba
 rw [hL.out] at hstart
 have hinit : DivW n m a L w.heap.size g L w.heap.size w w1 := ⟨_, _, hstart.1, hstart.2, hrow1, hrow2, hbelw⟩
 clear hmk hrow1 hrow2 hstart hbel1 hbelw hg h
 replace hinit := qh9 hinit
 go_wp2
 go_loopw [28] (fun v wr => ∃ i : Nat, i ≤ L ∧ v = .int .i64 i ∧ Hid (DivW n m a L w.heap.size g (L - i) w.heap.size w wr)) (fun v _ => L - (intOf v).toNat)
 case atStart => exact ⟨0, Nat.zero_le _, rfl, hinit⟩
 case round =>
  clear hinit
  obtain ⟨i, hi, rfl, hdw⟩ := hrel
  obtain ⟨wo, rfl⟩ : ∃ wo : World, wo = wr := ⟨_, rfl⟩
  by_cases hiL : i < L
  · obtain ⟨qs, rs, hds, hlt, hr1, hr2, hbel⟩ := hdw.out
    have hT : DivT n m qs rs L a (L - 1 - i) := DivS.enter (by rw [show L - 1 - i + 1 = L - i from by omega]; exact hds) (by rw [show L - 1 - i + 1 = L - i from by omega]; exact hlt)
    clear hds hlt hdw
    replace hT := qh9 hT
    by_cases hi0 : i = 0
    · have hmn : a < L - 1 - i + b + 1 := by omega
      clear hi0
      go_wp2_with fail
      refine (trim_any _ (seg rs (L - 1 - i) (a)) (restAt rs (L - 1 - i)) _ _ _ _ (hT.out.seg_val hb (by omega) (by omega) (by omega)) (seg_length _ _ _ (by rw [hT.out.base.lr]; omega)) (hr2.seg_reads hr2.lt _ _ (by rw [hT.out.base.lr]; omega)) (seg_dig hT.out.base.dr _ _) (by omega) (by omega)).mono ?_
      rintro e w2 ⟨rfl, rfl⟩
      have hx : Hid (DivX n m a L w.heap.size g (L - 1 - i) (restAt rs (L - 1 - i)) w.heap.size w wo) := ⟨qs, rs, hT.out, rfl, hr1, hr2, hbel⟩
      clear hT hr1 hr2 hbel
      go_wp2
      go_loopg [10] (restAt rs (L - 1 - i)) (fun k r wr => r = .slice (some ⟨g, L - 1 - i, none⟩) (digs k).length (c1 - (L - 1 - i)) ∧ Hid (DivX n m a L w.heap.size g (L - 1 - i) k w.heap.size w wr))
      case atStart => exact ⟨rfl, hx⟩
      case round =>
       clear hx
       obtain ⟨rfl, hx⟩ := hrel
       obtain ⟨qs2, rs2, hT, hV, hr1, hr2, hbel⟩ := hx.out
       clear hx
       replace hV := qh9 hV
       obtain ⟨zs, post, hrs, hzl, hzd, hzv, hpost⟩ := hT.parts (by omega)
       rw [hV.out] at hzl hzv
       have hzs : zs = digs gk := by
        rw [← hzv]
        exact (digs_of_len hzd (by rw [hzv]; exact hzl)).symm
       subst hzs
       have hpre : Hid ((rs2.take (L - 1 - i)).length = L - 1 - i) := by
        have := hT.base.lr
        show _ = _
        rw [List.length_take, this]; omega
       have hk9 : (digs gk).length ≤ a := by
        have h1 := congrArg List.length hrs
        rw [hT.base.lr] at h1
        simp only [List.length_append] at h1
        omega
       have hk8 : L - 1 - i + (digs gk).length ≤ a := by
        have h1 := congrArg List.length hrs
        rw [hT.base.lr] at h1
        have h2 := hpre.out
        simp only [List.length_append] at h1
        omega
       have hR : Reads wr wr.heap.size .u8 (some ⟨g, L - 1 - i, none⟩) (digs gk) := by
        refine Row.mid_reads (pre := rs2.take (L - 1 - i)) (post := post) (e := 5) ?_ hr2.lt hpre.out
        rw [← hrs]; exact hr2
       have hR' : Reads wr wr.heap.size .u8 A' (digs m) := (h'.below hbel).more hbel.size
       by_cases hlt : gk < m
       · have ho : ordN gk m = -1 := ordN_lt hlt
         have hend := hT.leave (by rw [hV.out]; exact hlt)
         have hw1 : Hid (DivW n m a L w.heap.size g (L - (i + 1)) w.heap.size w wr) := ⟨qs2, rs2, by rw [show L - (i + 1) = L - 1 - i from by omega]; exact hend.1, by rw [show L - (i + 1) = L - 1 - i from by omega]; exact hend.2, hr1, hr2, hbel⟩
         clear hend hr1 hr2 hT hbel hrs hV hzd hzv hpost hzl
         go_wp2_with fail
         refine (cmpNat_any _ _ gk m _ _ _ _ _ _ rfl hb hR hR' (by omega) (by omega)).mono ?_
         rintro e w3 ⟨rfl, nq, rfl⟩
         clear hR hR'
         go_wp2
         go_roundw
         case rel => exact ⟨i + 1, by omega, by go_num, by
          obtain ⟨q1, r1, a1, a2, a3, a4, a5⟩ := hw1.out
          exact ⟨q1, r1, a1, a2, a3.drewN _, a4.drewN _, below_drewN a5 _⟩⟩
         case measure => simp [intOf]; omega
       · have ho : 0 ≤ ordN gk m := by unfold ordN; split <;> (try split) <;> omega
         have hmk : m ≤ gk := by omega
         have hS9 : L - 1 - i < L := by omega
         replace hrs := qh9 hrs
         replace hT := qh9 hT
         replace hzv := qh9 hzv
         replace hzl := qh9 hzl
         replace hpost := qh9 hpost
         go_wp2_with fail
         refine (cmpNat_any _ _ gk m _ _ _ _ _ _ rfl hb hR hR' (by omega) (by omega)).mono ?_
         rintro e w3 ⟨rfl, nq, rfl⟩
         clear hR hR'
         go_wp2_with fail
         refine (takeAway_any g (rs2.take (L - 1 - i)) (digs gk) post A' m (L - 1 - i) (digs gk).length b (c1 - (L - 1 - i)) d w.heap.size _ hpre rfl hb (by rw [← hrs.out]; exact hr2.drewN _) hzd ((h'.below hbel).drewN _) (by omega) (by rw [ofD_digs]; exact hmk) (by omega)).mono ?_
         rintro e w4 ⟨rfl, ss, hss, hds, hval, hrow3, honly⟩
         have hstep := hT.out.step (by omega) hS9 hrs.out (by rw [hV.out]; exact hzv.out) hpost.out hss hds hval (by omega)
         rw [hV.out] at hstep
         have hbel4 : Below w.heap.size w w4 := (below_drewN hbel nq).trans (honly.below (by omega))
         have hr14 := (hr1.drewN nq).only honly (by omega)
         have hlt3 := hrow3.lt
         have hlt1 := hr14.lt
         have hst := hr14.cell (L - 1 - i) (by rw [hT.out.base.lq]; omega)
         have hfz := hr14.frozen (L - 1 - i)
         have z0 := dg_nonneg qs2 (L - 1 - i)
         have z1 := dg_lt hT.out.base.dq (L - 1 - i)
         have hr15 := hr14.set_ (L - 1 - i) (qs2.getD (L - 1 - i) 0 + 1) (dg qs2 (L - 1 - i) + 1) (by unfold dg; omega)
         have hrow4 := hrow3.far (p := ⟨w.heap.size, L - 1 - i, none⟩) (by show g ≠ w.heap.size; omega) (.int .u8 (dg qs2 (L - 1 - i) + 1))
         have hbel5 := hbel4.setCell (p := ⟨w.heap.size, L - 1 - i, none⟩) (Nat.le_refl _) (.int .u8 (dg qs2 (L - 1 - i) + 1))
         have hxx : Hid (DivX n m a L w.heap.size g (L - 1 - i) (gk - m) w.heap.size w (w4.setCell ⟨w.heap.size, L - 1 - i, none⟩ (.int .u8 (dg qs2 (L - 1 - i) + 1)))) := ⟨_, _, hstep.1, hstep.2.1, hr15, hrow4, hbel5⟩
         have hsv : Hid (ofD ss = gk - m) := hstep.2.2.1
         have hsl : Hid (ss.length = (digs gk).length) := hss
         have hRR : Reads w4 w4.heap.size .u8 (some ⟨g, L - 1 - i, none⟩) ss := hrow3.mid_reads hlt3 hpre.out
         clear hstep hbel4 hr15 hrow4 hbel5 hr14 hval hss hrow3 honly hr1 hr2 hbel
         go_wp2_with fail
         refine (trim_any _ ss (gk - m) _ (c1 - (L - 1 - i)) _ _ hsv.out hsl.out hRR hds (by omega) (by omega)).mono ?_
         rintro e w5 ⟨rfl, rfl⟩
         clear hRR
         go_wp2
         go_roundg (gk - m)
         case measure => omega
         case rel => exact ⟨rfl, hxx⟩
    · have hmn : L - 1 - i + b + 1 ≤ a := by omega
      go_wp2_with fail
      refine (trim_any _ (seg rs (L - 1 - i) (L - 1 - i + b + 1)) (restAt rs (L - 1 - i)) _ _ _ _ (hT.out.seg_val hb (by omega) (by omega) (by omega)) (seg_length _ _ _ (by rw [hT.out.base.lr]; omega)) (hr2.seg_reads hr2.lt _ _ (by rw [hT.out.base.lr]; omega)) (seg_dig hT.out.base.dr _ _) (by omega) (by omega)).mono ?_
      rintro e w2 ⟨rfl, rfl⟩
      have hx : Hid (DivX n m a L w.heap.size g (L - 1 - i) (restAt rs (L - 1 - i)) w.heap.size w wo) := ⟨qs, rs, hT.out, rfl, hr1, hr2, hbel⟩
      clear hT hr1 hr2 hbel
      go_wp2
      go_loopg [10] (restAt rs (L - 1 - i)) (fun k r wr => r = .slice (some ⟨g, L - 1 - i, none⟩) (digs k).length (c1 - (L - 1 - i)) ∧ Hid (DivX n m a L w.heap.size g (L - 1 - i) k w.heap.size w wr))
      case atStart => exact ⟨rfl, hx⟩
      case round =>
       clear hx
       obtain ⟨rfl, hx⟩ := hrel
       obtain ⟨qs2, rs2, hT, hV, hr1, hr2, hbel⟩ := hx.out
       clear hx
       replace hV := qh9 hV
       obtain ⟨zs, post, hrs, hzl, hzd, hzv, hpost⟩ := hT.parts (by omega)
       rw [hV.out] at hzl hzv
       have hzs : zs = digs gk := by
        rw [← hzv]
        exact (digs_of_len hzd (by rw [hzv]; exact hzl)).symm
       subst hzs
       have hpre : Hid ((rs2.take (L - 1 - i)).length = L - 1 - i) := by
        have := hT.base.lr
        show _ = _
        rw [List.length_take, this]; omega
       have hk9 : (digs gk).length ≤ a := by
        have h1 := congrArg List.length hrs
        rw [hT.base.lr] at h1
        simp only [List.length_append] at h1
        omega
       have hk8 : L - 1 - i + (digs gk).length ≤ a := by
        have h1 := congrArg List.length hrs
        rw [hT.base.lr] at h1
        have h2 := hpre.out
        simp only [List.length_append] at h1
        omega
       have hR : Reads wr wr.heap.size .u8 (some ⟨g, L - 1 - i, none⟩) (digs gk) := by
        refine Row.mid_reads (pre := rs2.take (L - 1 - i)) (post := post) (e := 5) ?_ hr2.lt hpre.out
        rw [← hrs]; exact hr2
       have hR' : Reads wr wr.heap.size .u8 A' (digs m) := (h'.below hbel).more hbel.size
       by_cases hlt : gk < m
       · have ho : ordN gk m = -1 := ordN_lt hlt
         have hend := hT.leave (by rw [hV.out]; exact hlt)
         have hw1 : Hid (DivW n m a L w.heap.size g (L - (i + 1)) w.heap.size w wr) := ⟨qs2, rs2, by rw [show L - (i + 1) = L - 1 - i from by omega]; exact hend.1, by rw [show L - (i + 1) = L - 1 - i from by omega]; exact hend.2, hr1, hr2, hbel⟩
         clear hend hr1 hr2 hT hbel hrs hV hzd hzv hpost hzl
         go_wp2_with fail
         refine (cmpNat_any _ _ gk m _ _ _ _ _ _ rfl hb hR hR' (by omega) (by omega)).mono ?_
         rintro e w3 ⟨rfl, nq, rfl⟩
         clear hR hR'
         go_wp2
         go_roundw
         case rel => exact ⟨i + 1, by omega, by go_num, by
          obtain ⟨q1, r1, a1, a2, a3, a4, a5⟩ := hw1.out
          exact ⟨q1, r1, a1, a2, a3.drewN _, a4.drewN _, below_drewN a5 _⟩⟩
         case measure => simp [intOf]; omega
       · have ho : 0 ≤ ordN gk m := by unfold ordN; split <;> (try split) <;> omega
         have hmk : m ≤ gk := by omega
         have hS9 : L - 1 - i < L := by omega
         replace hrs := qh9 hrs
         replace hT := qh9 hT
         replace hzv := qh9 hzv
         replace hzl := qh9 hzl
         replace hpost := qh9 hpost
         go_wp2_with fail
         refine (cmpNat_any _ _ gk m _ _ _ _ _ _ rfl hb hR hR' (by omega) (by omega)).mono ?_
         rintro e w3 ⟨rfl, nq, rfl⟩
         clear hR hR'
         go_wp2_with fail
         refine (takeAway_any g (rs2.take (L - 1 - i)) (digs gk) post A' m (L - 1 - i) (digs gk).length b (c1 - (L - 1 - i)) d w.heap.size _ hpre rfl hb (by rw [← hrs.out]; exact hr2.drewN _) hzd ((h'.below hbel).drewN _) (by omega) (by rw [ofD_digs]; exact hmk) (by omega)).mono ?_
         rintro e w4 ⟨rfl, ss, hss, hds, hval, hrow3, honly⟩
         have hstep := hT.out.step (by omega) hS9 hrs.out (by rw [hV.out]; exact hzv.out) hpost.out hss hds hval (by omega)
         rw [hV.out] at hstep
         have hbel4 : Below w.heap.size w w4 := (below_drewN hbel nq).trans (honly.below (by omega))
         have hr14 := (hr1.drewN nq).only honly (by omega)
         have hlt3 := hrow3.lt
         have hlt1 := hr14.lt
         have hst := hr14.cell (L - 1 - i) (by rw [hT.out.base.lq]; omega)
         have hfz := hr14.frozen (L - 1 - i)
         have z0 := dg_nonneg qs2 (L - 1 - i)
         have z1 := dg_lt hT.out.base.dq (L - 1 - i)
         have hr15 := hr14.set_ (L - 1 - i) (qs2.getD (L - 1 - i) 0 + 1) (dg qs2 (L - 1 - i) + 1) (by unfold dg; omega)
         have hrow4 := hrow3.far (p := ⟨w.heap.size, L - 1 - i, none⟩) (by show g ≠ w.heap.size; omega) (.int .u8 (dg qs2 (L - 1 - i) + 1))
         have hbel5 := hbel4.setCell (p := ⟨w.heap.size, L - 1 - i, none⟩) (Nat.le_refl _) (.int .u8 (dg qs2 (L - 1 - i) + 1))
         have hxx : Hid (DivX n m a L w.heap.size g (L - 1 - i) (gk - m) w.heap.size w (w4.setCell ⟨w.heap.size, L - 1 - i, none⟩ (.int .u8 (dg qs2 (L - 1 - i) + 1)))) := ⟨_, _, hstep.1, hstep.2.1, hr15, hrow4, hbel5⟩
         have hsv : Hid (ofD ss = gk - m) := hstep.2.2.1
         have hsl : Hid (ss.length = (digs gk).length) := hss
         have hRR : Reads w4 w4.heap.size .u8 (some ⟨g, L - 1 - i, none⟩) ss := hrow3.mid_reads hlt3 hpre.out
         clear hstep hbel4 hr15 hrow4 hbel5 hr14 hval hss hrow3 honly hr1 hr2 hbel
         go_wp2_with fail
         refine (trim_any _ ss (gk - m) _ (c1 - (L - 1 - i)) _ _ hsv.out hsl.out hRR hds (by omega) (by omega)).mono ?_
         rintro e w5 ⟨rfl, rfl⟩
         clear hRR
         go_wp2
         go_roundg (gk - m)
         case measure => omega
         case rel => exact ⟨rfl, hxx⟩
  · obtain rfl : i = L := by omega
    obtain ⟨qs, rs, hds, hlt, hr1, hr2, hbel⟩ := hdw.out
    rw [Nat.sub_self] at hds hlt
    have hfin := hds.done hlt
    have hlt1 := hr1.lt
    have hlt2 := hr2.lt
    have hql : Hid (qs.length = i) := hds.lq
    have hrl : Hid (rs.length = a) := hds.lr
    have hq := qh9 hfin.1
    have hr := qh9 hfin.2
    have hdq := hds.dq
    have hdr := hds.dr
    have hR1 := hr1.reads hlt1
    have hR2 := hr2.reads hlt2
    clear hfin hds hlt hdw hr1 hr2
    go_wp2_with fail
    refine (trim_any _ qs (n / m) i i _ _ hq.out hql.out hR1 hdq (by omega) (by omega)).mono ?_
    rintro e w2 ⟨rfl, rfl⟩
    go_wp2_with fail
    refine (trim_any _ rs (n % m) a c1 _ _ hr.out hrl.out hR2 hdr (by omega) (by omega)).mono ?_
    rintro e w3 ⟨rfl, rfl⟩
    go_wp2
    go_ret2
    exact ⟨_, _, _, _, rfl, by
     have h1 := ofD_lt hdq
     rw [hq.out, hql.out] at h1
     exact digs_length_le h1, by
     have h1 := ofD_lt hdr
     rw [hr.out, hrl.out] at h1
     exact Nat.le_trans (digs_length_le h1) hc1, hR1.of_digs hdq hq.out, hR2.of_digs hdr hr.out, hbel⟩

theorem divNat_any (A A' : Option Addr) (n m a b c d : Nat) (w : World) (ha : LenIs n a) (hb : LenIs m b) (h : Reads w w.heap.size .u8 A (digs n)) (h' : Reads w w.heap.size .u8 A' (digs m)) (hc : a ≤ c) (h9 : a ≤ 1000000000) (hm : m ≠ 0) :
 Calls Tryz.prog 207 #[.slice A a c, .slice A' b d] w (RetDD .u8 w (n / m) (n % m)) := by
 by_cases hab : a < b
 · exact divNat_small A A' n m a b c d w ha hb h hc hab
 · exact divNat_big A A' n m a b c d w ha hb h h' h9 hm (by omega)
def OW (n m a g p R : Nat) (A : Option Addr) (B : Nat) (w wr : World) : Prop :=
 ∃ qs, OInv n m qs a p R ∧ Row wr g 3 .i64 qs ∧ Reads wr wr.heap.size .i64 A (digs R) ∧ Below B w wr
def OX (n m a g p R : Nat) (A : Option Addr) (B : Nat) (w wr : World) : Prop :=
 ∃ qs, OIn n m qs a p R ∧ Row wr g 3 .i64 qs ∧ Reads wr wr.heap.size .i64 A (digs R) ∧ Below B w wr

theorem own_cons {w : World} {B p : Nat} {v : Value} {ns xs : List Nat} (h : w.ownsRow B 3 1 v (1 + xs.length) (.int .i64 (dg ns p) :: xs.map fun d : Nat => Value.int .i64 (d : Int))) : Own w B v (ns.getD p 0 :: xs) := by
 unfold Own
 rw [List.length_cons, Nat.add_comm]
 exact h
theorem cons_dig {n p R : Nat} : AllDig ((digs n).getD p 0 :: digs R) := by
 intro d hd
 rcases List.mem_cons.1 hd with e | e
 · rw [e]; exact (allDig_digs n).getD p
 · exact allDig_digs R d e
theorem cons_val (d R : Nat) : ofD (d :: digs R) = d + 10 * R := by rw [ofD, ofD_digs]
theorem ten_len {X m b : Nat} (hb : LenIs m b) (h : X < 10 * m) : (digs X).length ≤ b + 1 := by
 apply digs_length_le
 have := lt_pow_digs m
 rw [show (digs m).length = b from hb] at this
 rw [Nat.pow_succ]
 omega

theorem overR (A A' : Option Addr) (n m a b c d : Nat) (w : World) (ha : LenIs n a) (hb : LenIs m b) (h : Reads w w.heap.size .i64 A (digs n)) (h' : Reads w w.heap.size .i64 A' (digs m)) (h9 : a ≤ 1000000000) (h9' : b ≤ 1000000000) (hm : m ≠ 0) :
 Calls Tryz.prog 131 #[.slice A a c, .slice A' b d] w (RetDD .i64 w (n / m) (n % m)) := by
 have hmk := make64 a (a : Int) rfl (by omega)
 obtain ⟨i0, hi, hz0, hz1, hz2⟩ := info_parts infoI
 replace hi := qh9 hi
 replace hz0 := qh9 hz0
 replace hz1 := qh9 hz1
 replace hz2 := qh9 hz2
 go_enter Tryz.func131, Tryz.ntmps131
 go_wp2
 clear hmk
 go_loopw [7, 8] (fun u v wr => ∃ (k R : Nat) (E : Option Addr) (ce : Nat), k ≤ a ∧ v = .int .i64 ((k : Int) - 1) ∧ u = .slice E (digs R).length ce ∧ (digs R).length ≤ ce ∧ R < m ∧ Hid (OW n m a w.heap.size k R E w.heap.size w wr)) (fun _ v _ => (intOf v + 1).toNat)
 case atStart => exact ⟨a, 0, none, 0, Nat.le_refl _, rfl, rfl, Nat.le_refl _, by omega, zeros a, OInv.start n m a ha, Row.new _ _ _ _, Reads.nil_, (Below.refl _ _).alloc (Nat.le_refl _) _⟩
 case round =>
  obtain ⟨k, R, E, ce, hk, rfl, rfl, hRc, hRm, how⟩ := hrel
  obtain ⟨wo, rfl⟩ : ∃ wo : World, wo = wr := ⟨_, rfl⟩
  obtain ⟨qs, hinv, hrow, hread, hbel⟩ := how.out
  clear how
  by_cases hk0 : 0 < k
  · obtain ⟨b1, o1, rfl, hB1, hcell1⟩ := (h.below hbel) (by unfold LenIs at ha; omega)
    replace hcell1 := hcell1 (k - 1) (by unfold LenIs at ha; omega)
    have hp0 : (0 : Int) ≤ (k : Int) - 1 := by omega
    have hp1 : (k : Int) - 1 < a := by omega
    have x0 := dg_nonneg (digs n) (k - 1)
    have x1 := dg_lt (allDig_digs n) (k - 1)
    have hRl : (digs R).length ≤ b := by have := digs_length_mono (Nat.le_of_lt hRm); unfold LenIs at hb; omega
    have hin := OInv.enter (p := k - 1) (by rw [show k - 1 + 1 = k from by omega]; exact hinv) (by omega) hRm
    have hread1 := qh9 (hread.alloc (Nat.le_refl _) (.cells #[.int .i64 (dg (digs n) (k - 1))] 3))
    have hlit := qh9 (World.ownsRow_lit wo (e := 3) (size := 1) (base := wo.heap.size) #[.int .i64 (dg (digs n) (k - 1))] 1 (Nat.le_refl _) (by decide) rfl)
    have hbs := hbel.size
    have hrlt := hrow.lt
    replace hin := qh9 hin
    go_wp2_with (at_builtin; refine wpList_append_rd _ rfl (.tmp 23) (.tmp 24) 58 rfl wo.heap.size 3 i0 (.int .i64 0) 1 8 Tryz.underlying58 hi.out hz0.out hz1.out hz2.out rfl (by decide) rfl (.slice (some ⟨wo.heap.size, 0, none⟩) 1 1) 1 [.int .i64 (dg (digs n) (k - 1))] rfl hlit.out _ .i64 E (digs R).length ce (digs R) rfl rfl hread1.out ?c2 ?c3 (by simp) ?_)
    case c2 => unfold maxLen; omega
    case c3 => omega
    intro v1 w1 hown1 hg1
    have hown2 := own_cons hown1
    obtain ⟨E1, ce1, rfl, hce1, hR1⟩ := hown2.form
    have hb1 : Below wo.heap.size wo w1 := ((Below.refl _ _).alloc (Nat.le_refl _) _).grown hg1 (by simp) (fun q hq => by have hq2 : some wo.heap.size = some q := hq; injection hq2 with hq2; omega)
    have hrow1 := hrow.below hb1 hrlt
    have hbel1 : Below w.heap.size w w1 := hbel.trans (hb1.mono hbs)
    have hox : Hid (OX n m a w.heap.size (k - 1) ((digs n).getD (k - 1) 0 + 10 * R) E1 w.heap.size w w1) := ⟨qs, hin.out, hrow1, hR1.of_digs cons_dig (cons_val _ _), hbel1⟩
    have hl1 : (digs ((digs n).getD (k - 1) 0 + 10 * R)).length ≤ b + 1 := ten_len hb (Nat.lt_of_le_of_lt (Nat.le_add_right _ _) hin.out.room)
    have hLl : Hid (((digs n).getD (k - 1) 0 :: digs R).length = (digs R).length + 1) := List.length_cons
    rw [hLl.out] at hce1 ⊢
    have hlc1 : (digs ((digs n).getD (k - 1) 0 + 10 * R)).length ≤ ce1 := by
     have h1 := ofD_lt (cons_dig (n := n) (p := k - 1) (R := R))
     rw [cons_val, hLl.out] at h1
     exact Nat.le_trans (digs_length_le h1) hce1
    replace hR1 := qh9 hR1
    obtain ⟨R1, hR1e⟩ : ∃ R1, (digs n).getD (k - 1) 0 + 10 * R = R1 := ⟨_, rfl⟩
    have hval : Hid (ofD ((digs n).getD (k - 1) 0 :: digs R) = R1) := by show _ = _; rw [cons_val, hR1e]
    rw [hR1e] at hox hl1 hlc1
    clear hown1 hown2 hg1 hb1 hrow1 hbel1 hrow hread hbel hread1 hlit hin hR1e hinv
    go_wp2_with fail
    refine (trimR E1 ((digs n).getD (k - 1) 0 :: digs R) R1 _ ce1 _ _ hval.out hLl.out hR1.out cons_dig hce1 (by omega)).mono ?_
    rintro e w2 ⟨rfl, rfl⟩
    clear hR1
    go_wp2
    go_loopg [7] R1 (fun X u wr => ∃ (E : Option Addr) (ce : Nat), u = .slice E (digs X).length ce ∧ (digs X).length ≤ ce ∧ (digs X).length ≤ b + 1 ∧ Hid (OX n m a w.heap.size (k - 1) X E w.heap.size w wr))
    case atStart => exact ⟨E1, ce1, rfl, hlc1, hl1, hox⟩
    case round =>
     clear hox hl1 hlc1
     obtain ⟨E, ce, rfl, hXc, hXl, hox⟩ := hrel
     obtain ⟨qs2, hin, hrow, hread, hbel⟩ := hox.out
     clear hox
     have hm2 : Reads wr wr.heap.size .i64 A' (digs m) := (h'.below hbel).more hbel.size
     by_cases hlt : gk < m
     · have ho : ordN gk m = -1 := ordN_lt hlt
       have how : Hid (OW n m a w.heap.size (k - 1) gk E w.heap.size w wr) := ⟨qs2, hin.base, hrow, hread, hbel⟩
       go_wp2_with fail
       refine (orderR _ _ gk m _ _ _ _ _ _ rfl hb hread hm2 (by omega) (by omega)).mono ?_
       rintro e w3 ⟨rfl, nq, rfl⟩
       clear hread hm2 hrow hbel hin
       go_wp2
       go_roundw
       case rel => exact ⟨k - 1, gk, E, ce, by omega, by go_num, rfl, hXc, hlt, by
        obtain ⟨q1, a1, a2, a3, a4⟩ := how.out
        exact ⟨q1, a1, a2.drewN _, a3.drewN _, below_drewN a4 _⟩⟩
       case measure => simp [intOf]; omega
     · have ho : 0 ≤ ordN gk m := by unfold ordN; split <;> (try split) <;> omega
       have hle : m ≤ gk := by omega
       have hstep := hin.step (by omega) hle (by omega)
       have hql : Hid (qs2.length = a) := hin.base.lq
       have z0 := dg_nonneg qs2 (k - 1)
       have z1 := dg_lt hin.base.dq (k - 1)
       have hl2 : (digs (gk - m)).length ≤ b + 1 := by have := digs_length_mono (Nat.sub_le gk m); omega
       replace hin := qh9 hin
       replace hstep := qh9 hstep
       go_wp2_with fail
       refine (orderR _ _ gk m _ _ _ _ _ _ rfl hb hread hm2 (by omega) (by omega)).mono ?_
       rintro e w3 ⟨rfl, nq, rfl⟩
       go_wp2_with fail
       refine (minusR E A' gk m _ b ce d (wr.drewN nq) rfl hb hread hm2 (by omega) (by omega) hle).mono ?_
       rintro e w4 ⟨A4, c4, rfl, hc4, hR4, hb4, hF4⟩
       have hlt0 := hrow.lt
       have hrow4 := (hrow.drewN nq).below hb4 hlt0
       have hbel4 : Below w.heap.size w w4 := (below_drewN hbel nq).trans (hb4.mono hbel.size)
       have hs4 := hrow4.lt
       have hst := hrow4.cell (k - 1) (by have := hql.out; omega)
       have hfz := hrow4.frozen (k - 1)
       have hrow5 := hrow4.set_ (k - 1) (qs2.getD (k - 1) 0 + 1) (dg qs2 (k - 1) + 1) (by unfold dg; omega)
       have hbel5 := hbel4.setCell (p := ⟨w.heap.size, k - 1, none⟩) (Nat.le_refl _) (.int .i64 (dg qs2 (k - 1) + 1))
       have hR5 : Reads (w4.setCell ⟨w.heap.size, k - 1, none⟩ (.int .i64 (dg qs2 (k - 1) + 1))) (w4.setCell ⟨w.heap.size, k - 1, none⟩ (.int .i64 (dg qs2 (k - 1) + 1))).heap.size .i64 A4 (digs (gk - m)) := by
        have e : (w4.setCell ⟨w.heap.size, k - 1, none⟩ (.int .i64 (dg qs2 (k - 1) + 1))).heap.size = w4.heap.size := by simp [World.setCell]
        rw [e]
        exact hR4.far (fun x hx => Nat.lt_of_lt_of_le hlt0 (hF4 x hx)) _ _
       have hxx : Hid (OX n m a w.heap.size (k - 1) (gk - m) A4 w.heap.size w (w4.setCell ⟨w.heap.size, k - 1, none⟩ (.int .i64 (dg qs2 (k - 1) + 1)))) := ⟨_, hstep.out.1, hrow5, hR5, hbel5⟩
       clear hread hm2 hrow hbel hin hR5 hbel5 hrow5 hrow4 hbel4 hR4 hb4
       go_wp2
       go_roundg (gk - m)
       case measure => omega
       case rel => exact ⟨A4, c4, rfl, hc4, hl2, hxx⟩
  · obtain rfl : k = 0 := by omega
    have hfin := hinv.done hRm
    have hql : Hid (qs.length = a) := hinv.lq
    have hlt := hrow.lt
    have hQ := hrow.reads hlt
    have hdq := hinv.dq
    have hq := qh9 hfin.1
    have hr := qh9 hfin.2
    clear hfin hinv hrow
    go_wp2_with fail
    refine (trimR _ qs (n / m) a a _ _ hq.out hql.out hQ hdq (Nat.le_refl _) (by omega)).mono ?_
    rintro e w2 ⟨rfl, rfl⟩
    go_wp2
    go_ret2
    refine ⟨some ⟨w.heap.size, 0, none⟩, a, E, ce, ?_, ?_, ?_, hQ.of_digs hdq hq.out, ?_, hbel⟩
    · rw [← hr.out]; rfl
    · have h1 := ofD_lt hdq
      rw [hq.out, hql.out] at h1
      exact digs_length_le h1
    · rw [← hr.out]; exact hRc
    · rw [← hr.out]; exact hread
end Go.Proofs.YtinjhnnpbejccaaGreatDoor
