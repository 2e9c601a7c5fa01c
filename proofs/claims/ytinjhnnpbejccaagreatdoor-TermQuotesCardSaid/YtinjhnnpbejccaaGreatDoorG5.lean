import Derived.Test.YtinjhnnpbejccaaGreatDoorAl
import Derived.Test.YtinjhnnpbejccaaGreatDoorG2
import Derived.Test.YtinjhnnpbejccaaGreatDoorChecked
import Derived.WalkKit
import Derived.WalkSpells
import Derived.WalkLawsBesides
import Derived.Lib.Hide
import Derived.Deep.QuietTactic
import Derived.BigQuiet
import Derived.Test.YtinjhnnpbejccaaGreatDoorG3
import Derived.Maps.AppendAt
import Derived.OwnWalk
import Derived.Test.YtinjhnnpbejccaaGreatDoorG4
import Derived.Deep.OwnRows
namespace Go.Proofs.YtinjhnnpbejccaaGreatDoor
open Go Go.RowKit
set_option linter.unusedVariables false
set_option maxHeartbeats 32000000
set_option maxRecDepth 100000
def TopEq (xs ys : List Nat) (k : Nat) : Prop := xs.drop k = ys.drop k

theorem TopEq.start {xs ys : List Nat} (h : xs.length = ys.length) : TopEq xs ys xs.length := by
 unfold TopEq; rw [List.drop_eq_nil_of_le (Nat.le_refl _), List.drop_eq_nil_of_le (by omega)]
theorem TopEq.down {xs ys : List Nat} {k : Nat} (h : TopEq xs ys (k + 1)) (hx : k < xs.length) (hy : k < ys.length) (e : dg xs k = dg ys k) : TopEq xs ys k := by
 unfold TopEq at *
 rw [List.drop_eq_getElem_cons hx, List.drop_eq_getElem_cons hy, h]
 unfold dg at e
 rw [List.getD_eq_getElem?_getD, List.getD_eq_getElem?_getD, List.getElem?_eq_getElem hx, List.getElem?_eq_getElem hy] at e
 simp only [Option.getD_some] at e
 congr 1
 omega
theorem ord_digs_lt {n m k : Nat} (h : TopEq (digs n) (digs m) (k + 1)) (hl : (digs n).length = (digs m).length) (hk : k < (digs n).length) (e : dg (digs n) k < dg (digs m) k) : n < m := by
 have := ofD_lt_of_top (allDig_digs n) k hl hk h (by unfold dg at e; omega)
 rwa [ofD_digs, ofD_digs] at this
theorem TopEq.symm {xs ys : List Nat} {k : Nat} (h : TopEq xs ys k) : TopEq ys xs k := Eq.symm h

theorem cmpNat_any (A A' : Option Addr) (n m a b c d : Nat) (w : World) (B : Nat) (ha : LenIs n a) (hb : LenIs m b) (h : Reads w B .u8 A (digs n)) (h' : Reads w B .u8 A' (digs m)) (hc : a ≤ 1000000000) (hd : b ≤ 1000000000) :
 Calls Tryz.prog 211 #[.slice A a c, .slice A' b d] w fun e w' => e = .returned (.int .i64 (ordN n m)) ∧ ∃ q, w' = w.drewN q := by
 by_cases h1 : a < b
 · have ho : n < m := lt_of_digs_length_lt (by unfold LenIs at ha hb; omega)
   go_enter Tryz.func211, Tryz.ntmps211
   go_wp2
   go_ret
   exact ⟨ret_int (ordN_lt ho).symm, 0, rfl⟩
 by_cases h2 : b < a
 · have ho : m < n := lt_of_digs_length_lt (by unfold LenIs at ha hb; omega)
   go_enter Tryz.func211, Tryz.ntmps211
   go_wp2
   go_ret
   exact ⟨ret_int (ordN_gt ho).symm, 0, rfl⟩
 obtain rfl : a = b := by omega
 clear h1 h2
 go_enter Tryz.func211, Tryz.ntmps211
 go_wp2
 go_loopw [19] (fun v wr => ∃ k : Nat, k ≤ a ∧ v = .int .i64 k ∧ Hid (TopEq (digs n) (digs m) (a - k)) ∧ ∃ q, wr = w.drewN q) (fun v _ => a - (intOf v).toNat)
 case atStart => exact ⟨0, Nat.zero_le _, rfl, by have := TopEq.start (xs := digs n) (ys := digs m) (by unfold LenIs at ha hb; omega); rwa [show a - 0 = (digs n).length from by unfold LenIs at ha; omega], 0, rfl⟩
 case round =>
  obtain ⟨k, hk, rfl, ht, q, rfl⟩ := hrel
  by_cases hka : k < a
  · obtain ⟨b1, o1, rfl, hB1, hcell1⟩ := h (by unfold LenIs at ha; omega)
    obtain ⟨b2, o2, rfl, hB2, hcell2⟩ := h' (by unfold LenIs at hb; omega)
    replace hcell1 := hcell1 (a - 1 - k) (by unfold LenIs at ha; omega)
    replace hcell2 := hcell2 (a - 1 - k) (by unfold LenIs at hb; omega)
    have hp : (0 : Int) ≤ (a : Int) - 1 - k := by omega
    have hq : (a : Int) - 1 - k < a := by omega
    rcases Int.lt_trichotomy (dg (digs n) (a - 1 - k)) (dg (digs m) (a - 1 - k)) with hlt | heq | hgt
    · have ho : n < m := ord_digs_lt (k := a - 1 - k) (by rw [show a - 1 - k + 1 = a - k from by omega]; exact ht.out) (by unfold LenIs at ha hb; omega) (by unfold LenIs at ha; omega) hlt
      go_wp2
      go_quiet (fail)
      go_wp2
      go_ret
      exact ⟨ret_int (ordN_lt ho).symm, dr1 _ _ _⟩
    · have hn1 : ¬ dg (digs n) (a - 1 - k) < dg (digs m) (a - 1 - k) := by omega
      have hn2 : ¬ dg (digs m) (a - 1 - k) < dg (digs n) (a - 1 - k) := by omega
      have Heq := qh9 heq
      clear heq
      go_wp2
      go_quiet (fail)
      go_wp2
      go_quiet (fail)
      go_wp2
      go_roundw
      case rel => exact ⟨k + 1, by omega, by go_num, by rw [show a - (k + 1) = a - 1 - k from by omega]; exact TopEq.down (by rw [show a - 1 - k + 1 = a - k from by omega]; exact ht.out) (by unfold LenIs at ha; omega) (by unfold LenIs at hb; omega) Heq.out, _, rfl⟩
      case measure => simp [intOf]; omega
    · have ho : m < n := ord_digs_lt (k := a - 1 - k) (by rw [show a - 1 - k + 1 = a - k from by omega]; exact ht.out.symm) (by unfold LenIs at ha hb; omega) (by unfold LenIs at hb; omega) hgt
      have hn1 : ¬ dg (digs n) (a - 1 - k) < dg (digs m) (a - 1 - k) := by omega
      go_wp2
      go_quiet (fail)
      go_wp2
      go_quiet (fail)
      go_wp2
      go_ret
      exact ⟨ret_int (ordN_gt ho).symm, dr2 _ _ _ _⟩
  · have ho : n = m := by
     have := ht.out
     rw [show a - k = 0 from by omega] at this
     exact digs_inj this
    have Ho := qh9 ho
    clear ho
    go_wp2
    go_ret
    exact ⟨ret_int (ordN_eq Ho.out).symm, _, rfl⟩
theorem ofD_split (rs : List Nat) (S : Nat) (hS : S ≤ rs.length) : ofD rs = ofD (rs.take S) + 10 ^ S * ofD (rs.drop S) := by
 conv => lhs; rw [← List.take_append_drop S rs]
 rw [ofD_append, List.length_take, Nat.min_eq_left hS]
theorem ofD_drop {rs : List Nat} (h : AllDig rs) (S : Nat) (hS : S ≤ rs.length) : ofD (rs.drop S) = ofD rs / 10 ^ S := by
 have h1 := ofD_split rs S hS
 have h2 := ofD_lt (h.take S)
 rw [List.length_take, Nat.min_eq_left hS] at h2
 rw [h1, Nat.add_mul_div_left _ _ (Nat.pow_pos (by decide)), Nat.div_eq_of_lt h2, Nat.zero_add]
theorem ofD_take_of_lt {xs : List Nat} {k : Nat} (h : ofD xs < 10 ^ k) : ofD (xs.take k) = ofD xs := by
 rcases Nat.lt_or_ge k xs.length with hk | hk
 · have h1 := ofD_split xs k (by omega)
   have h0 : ofD (xs.drop k) = 0 := by
    rcases Nat.eq_zero_or_pos (ofD (xs.drop k)) with h0 | h0
    · exact h0
    · have := Nat.mul_le_mul_left (10 ^ k) h0
      omega
   rw [h0, Nat.mul_zero, Nat.add_zero] at h1
   exact h1.symm
 · rw [List.take_of_length_le hk]
theorem digs_of_len {xs : List Nat} (h : AllDig xs) (hl : xs.length = (digs (ofD xs)).length) : digs (ofD xs) = xs := by
 obtain ⟨n, hn, e⟩ := trim_head h
 have h1 := congrArg List.length e
 rw [List.length_take, Nat.min_eq_left hn] at h1
 rw [← e, List.take_of_length_le (by omega)]
structure DivS (n m : Nat) (qs rs : List Nat) (L a s : Nat) : Prop where
 dq : AllDig qs
 lq : qs.length = L
 dr : AllDig rs
 lr : rs.length = a
 val : ofD rs + ofD qs * m = n
 zero : ∀ j, j < s → qs.getD j 0 = 0

theorem ofD_zeros (n : Nat) : ofD (zeros n) = 0 := by
 induction n with
 | zero => rfl
 | succ n ih => unfold zeros at *; rw [List.replicate_succ, ofD, ih]

theorem pow_digs_le {m : Nat} (h : m ≠ 0) : 10 ^ ((digs m).length - 1) ≤ m := by
 rcases Nat.lt_or_ge m (10 ^ ((digs m).length - 1)) with h1 | h1
 · have := digs_length_le h1
   have := digs_ne_nil h
   have := List.length_pos_iff.2 this
   omega
 · exact h1

theorem DivS.start (n m : Nat) {a b : Nat} (ha : LenIs n a) (hb : LenIs m b) (hm : m ≠ 0) (hba : b ≤ a) : DivS n m (zeros (a - b + 1)) (digs n) (a - b + 1) a (a - b + 1) ∧ ofD (digs n) < 10 ^ (a - b + 1) * m := by
 refine ⟨⟨zeros_dig _, zeros_length _, allDig_digs n, ha, by rw [ofD_zeros, ofD_digs]; omega, fun j _ => zeros_get _ _⟩, ?_⟩
 have h1 := lt_pow_digs n
 have h2 := pow_digs_le hm
 unfold LenIs at ha hb
 have hbp : 0 < b := by rw [← hb]; exact List.length_pos_iff.2 (digs_ne_nil hm)
 rw [ha] at h1
 rw [hb] at h2
 rw [ofD_digs]
 refine Nat.lt_of_lt_of_le h1 ?_
 have h3 := Nat.mul_le_mul_left (10 ^ (a - b + 1)) h2
 rwa [← Nat.pow_add, show a - b + 1 + (b - 1) = a from by omega] at h3
structure DivT (n m : Nat) (qs rs : List Nat) (L a S : Nat) : Prop where
 base : DivS n m qs rs L a S
 room : ofD rs + 10 ^ S * (qs.getD S 0 * m) < 10 ^ S * (10 * m)

theorem DivS.enter {n m : Nat} {qs rs : List Nat} {L a S : Nat} (h : DivS n m qs rs L a (S + 1)) (hr : ofD rs < 10 ^ (S + 1) * m) : DivT n m qs rs L a S := by
 refine ⟨⟨h.dq, h.lq, h.dr, h.lr, h.val, fun j hj => h.zero j (by omega)⟩, ?_⟩
 rw [h.zero S (by omega), Nat.zero_mul, Nat.mul_zero, Nat.add_zero, ← Nat.mul_assoc, ← Nat.pow_succ]
 exact hr
def restAt (rs : List Nat) (S : Nat) : Nat := ofD rs / 10 ^ S

theorem DivT.rest_lt {n m : Nat} {qs rs : List Nat} {L a S : Nat} (h : DivT n m qs rs L a S) : restAt rs S + qs.getD S 0 * m < 10 * m := by
 have h1 := h.room
 have h2 : ofD rs < 10 ^ S * (10 * m - qs.getD S 0 * m) := by
  rw [Nat.mul_sub]; omega
 have h3 := Nat.div_lt_of_lt_mul h2
 unfold restAt
 generalize ofD rs / 10 ^ S = x at h3 ⊢
 generalize qs.getD S 0 * m = y at h3 ⊢
 omega
def seg (rs : List Nat) (S hi : Nat) : List Nat := (rs.take hi).drop S
theorem seg_dig {rs : List Nat} (h : AllDig rs) (S hi : Nat) : AllDig (seg rs S hi) := (h.take hi).drop S
theorem seg_length (rs : List Nat) (S hi : Nat) (h : hi ≤ rs.length) : (seg rs S hi).length = hi - S := by
 unfold seg; rw [List.length_drop, List.length_take, Nat.min_eq_left h]
theorem seg_get (rs : List Nat) (S hi j : Nat) (hj : S + j < hi) : dg (seg rs S hi) j = dg rs (S + j) := by
 unfold seg dg
 rw [List.getD_eq_getElem?_getD, List.getElem?_drop, List.getElem?_take, if_pos hj, List.getD_eq_getElem?_getD]

theorem DivT.seg_val {n m : Nat} {qs rs : List Nat} {L a S b hi : Nat} (h : DivT n m qs rs L a S) (hb : LenIs m b) (hSa : S ≤ hi) (hha : hi ≤ a) (hhi : hi = S + b + 1 ∨ hi = a) : ofD (seg rs S hi) = restAt rs S := by
 have hd := ofD_drop h.base.dr S (by rw [h.base.lr]; omega)
 have e : seg rs S hi = (rs.drop S).take (hi - S) := by unfold seg; rw [List.drop_take]
 unfold restAt
 rw [e, ← hd]
 rcases hhi with e1 | e1
 · apply ofD_take_of_lt
   rw [hd]
   have h1 := h.rest_lt
   unfold restAt at h1
   have h2 := lt_pow_digs m
   unfold LenIs at hb
   rw [hb] at h2
   have h3 : hi - S = b + 1 := by omega
   rw [h3, Nat.pow_succ]
   omega
 · rw [List.take_of_length_le (by rw [List.length_drop, h.base.lr]; omega)]
theorem DivT.parts {n m : Nat} {qs rs : List Nat} {L a S : Nat} (h : DivT n m qs rs L a S) (hS : S ≤ a) : ∃ zs post, rs = rs.take S ++ zs ++ post ∧ zs.length = (digs (restAt rs S)).length ∧ AllDig zs ∧ ofD zs = restAt rs S ∧ ofD post = 0 := by
 have hd := ofD_drop h.base.dr S (by rw [h.base.lr]; omega)
 have hlt : ofD (rs.drop S) < 10 ^ (digs (restAt rs S)).length := by rw [hd]; exact lt_pow_digs _
 have hv := ofD_take_of_lt hlt
 have hlen : (digs (restAt rs S)).length ≤ (rs.drop S).length := by
  have := ofD_lt (h.base.dr.drop S)
  rw [hd] at this
  exact digs_length_le this
 refine ⟨(rs.drop S).take (digs (restAt rs S)).length, (rs.drop S).drop (digs (restAt rs S)).length, ?_, ?_, (h.base.dr.drop S).take _, by rw [hv, hd]; rfl, ?_⟩
 · rw [List.append_assoc, List.take_append_drop, List.take_append_drop]
 · rw [List.length_take, Nat.min_eq_left hlen]
 · have h1 := ofD_split (rs.drop S) (digs (restAt rs S)).length hlen
   rw [hv] at h1
   have h2 : 10 ^ (digs (restAt rs S)).length * ofD ((rs.drop S).drop (digs (restAt rs S)).length) = 0 := by omega
   rcases Nat.mul_eq_zero.1 h2 with h3 | h3
   · exact absurd h3 (Nat.pos_iff_ne_zero.1 (Nat.pow_pos (by decide)))
   · exact h3

theorem DivT.step {n m : Nat} {qs rs zs post ss : List Nat} {L a S : Nat} (h : DivT n m qs rs L a S) (hS : S ≤ a) (hSL : S < L) (e : rs = rs.take S ++ zs ++ post) (hz : ofD zs = restAt rs S) (hp : ofD post = 0) (hl : ss.length = zs.length) (hds : AllDig ss) (hv : ofD ss + m = ofD zs) (hm : 0 < m) :
 DivT n m (qs.set S (qs.getD S 0 + 1)) (rs.take S ++ ss ++ post) L a S ∧ restAt (rs.take S ++ ss ++ post) S = restAt rs S - m ∧ ofD ss = restAt rs S - m ∧ qs.getD S 0 + 1 < 10 := by
 have hlen : (rs.take S).length = S := by rw [List.length_take, Nat.min_eq_left (by rw [h.base.lr]; exact hS)]
 have e1 : ofD rs = ofD (rs.take S) + 10 ^ S * ofD zs := by
  conv => lhs; rw [e]
  rw [List.append_assoc, ofD_append, hlen, ofD_append, hp, Nat.mul_zero, Nat.add_zero]
 have e2 : ofD (rs.take S ++ ss ++ post) = ofD (rs.take S) + 10 ^ S * ofD ss := by
  rw [List.append_assoc, ofD_append, hlen, ofD_append, hp, Nat.mul_zero, Nat.add_zero]
 have hdig : AllDig (rs.take S ++ ss ++ post) := by
  have h1 := h.base.dr
  rw [e] at h1
  exact ((h.base.dr.take S).append hds).append h1.right
 have e3 : ofD rs = ofD (rs.take S ++ ss ++ post) + 10 ^ S * m := by
  rw [e1, e2, ← hv, Nat.mul_add, Nat.add_assoc]
 have hrest := h.rest_lt
 have ht : qs.getD S 0 + 1 < 10 := by
  rcases Nat.lt_or_ge (qs.getD S 0 + 1) 10 with h1 | h1
  · exact h1
  · have := Nat.mul_le_mul_right m h1
    rw [Nat.add_mul, Nat.one_mul] at this
    omega
 have hq : ofD (qs.set S (qs.getD S 0 + 1)) = ofD qs + 10 ^ S := by
  have h1 := ofD_set (qs.getD S 0 + 1) (show S < qs.length by rw [h.base.lq]; exact hSL)
  have h2 : ((qs.getD S 0 + 1 : Nat) : Int) - dg qs S = 1 := by unfold dg; omega
  rw [h2, Int.mul_one] at h1
  exact_mod_cast h1
 have hlow := ofD_lt (h.base.dr.take S)
 rw [hlen] at hlow
 refine ⟨⟨⟨h.base.dq.set_ _ ht, by rw [List.length_set]; exact h.base.lq, hdig, ?_, ?_, ?_⟩, ?_⟩, ?_, by omega, ht⟩
 · have h1 := congrArg List.length e
   rw [h.base.lr] at h1
   simp only [List.length_append] at h1 ⊢
   omega
 · have h1 := h.base.val
   rw [hq, Nat.add_mul]
   omega
 · intro j hj
   rw [getD_set_ne _ (by omega)]
   exact h.base.zero j hj
 · rw [getD_set_self _ (by rw [h.base.lq]; exact hSL), Nat.add_mul, Nat.one_mul, Nat.mul_add]
   have := h.room
   omega
 · unfold restAt
   rw [e2, Nat.add_mul_div_left _ _ (Nat.pow_pos (by decide)), Nat.div_eq_of_lt hlow, Nat.zero_add]
   unfold restAt at hz
   omega

theorem DivT.leave {n m : Nat} {qs rs : List Nat} {L a S : Nat} (h : DivT n m qs rs L a S) (hlt : restAt rs S < m) : DivS n m qs rs L a S ∧ ofD rs < 10 ^ S * m := by
 refine ⟨h.base, ?_⟩
 unfold restAt at hlt
 have h1 : 0 < 10 ^ S := Nat.pow_pos (by decide)
 exact (Nat.div_lt_iff_lt_mul h1).1 hlt |> fun h2 => by rwa [Nat.mul_comm] at h2

theorem DivS.done {n m : Nat} {qs rs : List Nat} {L a : Nat} (h : DivS n m qs rs L a 0) (hlt : ofD rs < 10 ^ 0 * m) : ofD qs = n / m ∧ ofD rs = n % m := by
 rw [Nat.pow_zero, Nat.one_mul] at hlt
 have h1 := h.val
 have hm : 0 < m := by omega
 constructor
 · rw [← h1, Nat.add_mul_div_right _ _ hm, Nat.div_eq_of_lt hlt, Nat.zero_add]
 · rw [← h1, Nat.add_mul_mod_self_right, Nat.mod_eq_of_lt hlt]

theorem Row.seg_reads {w : World} {g : Nat} {e : TypeId} {k : IntKind} {rs : List Nat} {B : Nat} (h : Row w g e k rs) (hg : g < B) (S hi : Nat) (hl : hi ≤ rs.length) : Reads w B k (some ⟨g, S, none⟩) (seg rs S hi) :=
 h.reads_at hg S _ fun j hj => by
  rw [seg_length _ _ _ hl] at hj
  exact ⟨by omega, seg_get _ _ _ _ (by omega)⟩
theorem Row.mid_reads {w : World} {g : Nat} {e : TypeId} {k : IntKind} {pre ss post : List Nat} {B S : Nat} (h : Row w g e k (pre ++ ss ++ post)) (hg : g < B) (hS : pre.length = S) : Reads w B k (some ⟨g, S, none⟩) ss :=
 h.reads_at hg S _ fun j hj => by
  subst hS
  refine ⟨by simp only [List.length_append]; omega, ?_⟩
  unfold dg
  simp only [List.getD_eq_getElem?_getD]
  rw [List.append_assoc, List.getElem?_append_right (by omega), Nat.add_sub_cancel_left, List.getElem?_append_left hj]
theorem trimR (A : Option Addr) (xs : List Nat) (v n c : Nat) (w : World) (B : Nat) (hv : ofD xs = v) (hn : xs.length = n) (h : Reads w B .i64 A xs) (ha : AllDig xs) (hl : n ≤ c) (hc : n ≤ 10000000000) :
 Calls Tryz.prog 157 #[.slice A n c] w fun e w' => e = .returned (.slice A (digs v).length c) ∧ w = w' := by
 subst hv
 have Hn := qh9 hn
 clear hn
 go_enter Tryz.func157, Tryz.ntmps157
 go_wp2
 go_loop [3] (fun v => ∃ k : Nat, k ≤ n ∧ v = .int .i64 k ∧ Hid (Zs xs k)) (fun v => (intOf v).toNat)
 case atStart => exact ⟨n, Nat.le_refl _, rfl, fun j hj hl' => by have := Hn.out; omega⟩
 case round =>
  obtain ⟨k, hk, rfl, hz⟩ := hrel
  by_cases hk0 : k = 0
  · subst hk0
    go_wp2
    go_ret
    exact ⟨ret_slice ((hz.out).done ha (by have := Hn.out; omega) (.inl rfl)).symm, rfl⟩
  · obtain ⟨b, o, hA, hB, hcell⟩ := h (by have := Hn.out; omega)
    replace hcell := hcell (k - 1) (by have := Hn.out; omega)
    clear h
    subst hA
    by_cases hd : xs.getD (k - 1) 0 = 0
    · have hd1 : (dg xs (k - 1) == 0) = true := by unfold dg; rw [hd]; rfl
      have Hd := qh9 hd
      clear hd
      go_wp2
      go_round
      case rel => exact ⟨k - 1, by omega, by go_num, (hz.out).down Hd.out⟩
      case measure => simp [intOf]; omega
    · have hd1 : (dg xs (k - 1) == 0) = false := by rw [beq_eq_false_iff_ne]; unfold dg; omega
      have Hd := qh9 hd
      clear hd
      go_wp2
      go_ret
      exact ⟨ret_slice ((hz.out).done ha (by have := Hn.out; omega) (.inr Hd.out)).symm, rfl⟩
theorem orderR (A A' : Option Addr) (n m a b c d : Nat) (w : World) (B : Nat) (ha : LenIs n a) (hb : LenIs m b) (h : Reads w B .i64 A (digs n)) (h' : Reads w B .i64 A' (digs m)) (hc : a ≤ 10000000000) (hd : b ≤ 10000000000) :
 Calls Tryz.prog 158 #[.slice A a c, .slice A' b d] w fun e w' => e = .returned (.int .i64 (ordN n m)) ∧ ∃ q, w' = w.drewN q := by
 by_cases h1 : a < b
 · have ho : n < m := lt_of_digs_length_lt (by unfold LenIs at ha hb; omega)
   have hd1 : ((a : Int) == (b : Int)) = false := by rw [beq_eq_false_iff_ne]; omega
   have hd2 : decide (a < b) = true := by simpa using h1
   go_enter Tryz.func158, Tryz.ntmps158
   go_wp2
   go_ret
   exact ⟨ret_int (ordN_lt ho).symm, 0, rfl⟩
 by_cases h2 : b < a
 · have ho : m < n := lt_of_digs_length_lt (by unfold LenIs at ha hb; omega)
   have hd1 : ((a : Int) == (b : Int)) = false := by rw [beq_eq_false_iff_ne]; omega
   go_enter Tryz.func158, Tryz.ntmps158
   go_wp2
   go_ret
   exact ⟨ret_int (ordN_gt ho).symm, 0, rfl⟩
 obtain rfl : a = b := by omega
 clear h1 h2
 have hd1 : ((a : Int) == (a : Int)) = true := by simp
 go_enter Tryz.func158, Tryz.ntmps158
 go_wp2
 go_loopw [5] (fun v wr => ∃ k : Nat, k ≤ a ∧ v = .int .i64 ((k : Int) - 1) ∧ Hid (TopEq (digs n) (digs m) k) ∧ ∃ q, wr = w.drewN q) (fun v _ => (intOf v + 1).toNat)
 case atStart => exact ⟨a, Nat.le_refl _, rfl, by have := TopEq.start (xs := digs n) (ys := digs m) (by unfold LenIs at ha hb; omega); rwa [show (digs n).length = a from ha] at this, 0, rfl⟩
 case round =>
  obtain ⟨k, hk, rfl, ht, q, rfl⟩ := hrel
  by_cases hka : 0 < k
  · obtain ⟨b1, o1, rfl, hB1, hcell1⟩ := h (by unfold LenIs at ha; omega)
    obtain ⟨b2, o2, rfl, hB2, hcell2⟩ := h' (by unfold LenIs at hb; omega)
    replace hcell1 := hcell1 (k - 1) (by unfold LenIs at ha; omega)
    replace hcell2 := hcell2 (k - 1) (by unfold LenIs at hb; omega)
    have hp : (0 : Int) ≤ (k : Int) - 1 := by omega
    have hq : (k : Int) - 1 < a := by omega
    rcases Int.lt_trichotomy (dg (digs n) (k - 1)) (dg (digs m) (k - 1)) with hlt | heq | hgt
    · have ho : n < m := ord_digs_lt (k := k - 1) (by rw [show k - 1 + 1 = k from by omega]; exact ht.out) (by unfold LenIs at ha hb; omega) (by unfold LenIs at ha; omega) hlt
      go_wp2
      go_quiet (fail)
      go_wp2
      go_ret
      exact ⟨ret_int (ordN_lt ho).symm, dr1 _ _ _⟩
    · have hn1 : ¬ dg (digs n) (k - 1) < dg (digs m) (k - 1) := by omega
      have hn2 : ¬ dg (digs m) (k - 1) < dg (digs n) (k - 1) := by omega
      have Heq := qh9 heq
      clear heq
      go_wp2
      go_quiet (fail)
      go_wp2
      go_quiet (fail)
      go_wp2
      go_roundw
      case rel => exact ⟨k - 1, by omega, by go_num, TopEq.down (by rw [show k - 1 + 1 = k from by omega]; exact ht.out) (by unfold LenIs at ha; omega) (by unfold LenIs at hb; omega) Heq.out, _, rfl⟩
      case measure => simp [intOf]; omega
    · have ho : m < n := ord_digs_lt (k := k - 1) (by rw [show k - 1 + 1 = k from by omega]; exact ht.out.symm) (by unfold LenIs at ha hb; omega) (by unfold LenIs at hb; omega) hgt
      have hn1 : ¬ dg (digs n) (k - 1) < dg (digs m) (k - 1) := by omega
      go_wp2
      go_quiet (fail)
      go_wp2
      go_quiet (fail)
      go_wp2
      go_ret
      exact ⟨ret_int (ordN_gt ho).symm, dr2 _ _ _ _⟩
  · have ho : n = m := by
     have := ht.out
     rw [show k = 0 from by omega] at this
     exact digs_inj this
    have Ho := qh9 ho
    clear ho
    go_wp2
    go_ret
    exact ⟨ret_int (ordN_eq Ho.out).symm, _, rfl⟩
def ci (xs : List Nat) : List Value := xs.map fun d : Nat => Value.int .i64 (d : Int)
def Own (w : World) (B : Nat) (v : Value) (xs : List Nat) : Prop := w.ownsRow B 3 1 v xs.length (ci xs)
theorem Own.nil_ (w : World) (B : Nat) : Own w B (.slice none 0 0) [] := World.ownsRow_nil w B 3 1
theorem Own.snoc {w : World} {B n : Nat} {v : Value} {xs : List Nat} {x : Int} {d : Nat} (h : w.ownsRow B 3 1 v (n + 1) (ci xs ++ [.int .i64 x])) (hn : xs.length = n) (hx : x = (d : Int)) : Own w B v (xs ++ [d]) := by
 subst hn hx
 unfold Own
 have e : ci (xs ++ [d]) = ci xs ++ [.int .i64 (d : Int)] := by unfold ci; simp
 rw [e, List.length_append]
 exact h
theorem Own.formF {w : World} {B : Nat} {v : Value} {xs : List Nat} (h : Own w B v xs) : ∃ A c, v = .slice A xs.length c ∧ xs.length ≤ c ∧ Reads w w.heap.size .i64 A xs ∧ ∀ x, A = some x → B ≤ x.block := by
 by_cases hv : ∃ A c, v = .slice A xs.length c ∧ A ≠ none
 · obtain ⟨A, c, rfl, hA⟩ := hv
   obtain ⟨g, rfl, hg, hc, hrow⟩ := Row.of_own h hA
   exact ⟨_, _, rfl, hc, hrow.reads hrow.lt, fun x hx => by injection hx with hx; subst hx; exact hg⟩
 · rcases h.2 with ⟨rfl, h0⟩ | ⟨g, cap, cur, rfl, _⟩
   · have hx : xs = [] := List.length_eq_zero_iff.1 h0
     subst hx
     exact ⟨none, 0, rfl, Nat.le_refl _, Reads.nil_, fun x hx => by cases hx⟩
   · exact absurd ⟨_, _, rfl, by simp⟩ hv
theorem Own.form {w : World} {B : Nat} {v : Value} {xs : List Nat} (h : Own w B v xs) : ∃ A c, v = .slice A xs.length c ∧ xs.length ≤ c ∧ Reads w w.heap.size .i64 A xs := by
 obtain ⟨A, c, h1, h2, h3, _⟩ := h.formF
 exact ⟨A, c, h1, h2, h3⟩
theorem Reads.far {w : World} {B g : Nat} {k : IntKind} {A : Option Addr} {xs : List Nat} (h : Reads w B k A xs) (hA : ∀ x, A = some x → g < x.block) (j : Nat) (u : Value) : Reads (w.setCell ⟨g, j, none⟩ u) B k A xs := fun hn => by
 obtain ⟨b, o, e, hb, hc⟩ := h hn
 have hg := hA _ e
 refine ⟨b, o, e, hb, fun i hi => ?_⟩
 rw [World.cell?_setCell_other _ _ _ _ (by intro e2; injection e2 with e3; simp only at hg; omega)]
 exact hc i hi
def RetF (k : IntKind) (w : World) (n : Nat) (e : Ending) (w' : World) : Prop :=
 ∃ A c, e = .returned (.slice A (digs n).length c) ∧ (digs n).length ≤ c ∧ Reads w' w'.heap.size k A (digs n) ∧ Below w.heap.size w w' ∧ ∀ x, A = some x → w.heap.size ≤ x.block
theorem infoI : (Tryz.prog.info? 3).map (fun i => (i.zero, i.size, i.bytes)) = some (some (.int .i64 0), 1, 8) := by kernel_rfl
def PInv (a b zs : List Nat) (k : Nat) (q : Int) : Prop :=
 AllDig zs ∧ zs.length = k ∧ ((ofD zs : Nat) : Int) + ((10 ^ k : Nat) : Int) * q = ((ofD (a.take k) + ofD (b.take k) : Nat) : Int)
def MInv (a b zs : List Nat) (k : Nat) (q : Int) : Prop :=
 AllDig zs ∧ zs.length = k ∧ ((ofD zs : Nat) : Int) + ((ofD (b.take k) : Nat) : Int) = ((ofD (a.take k) : Nat) : Int) + ((10 ^ k : Nat) : Int) * q
theorem MInv.start (a b : List Nat) : MInv a b [] 0 0 := ⟨(fun _ h => by cases h), rfl, by simp [ofD]⟩
theorem MInv.step {a b zs : List Nat} {k : Nat} {q q' z : Int} (h : MInv a b zs k q) (h0 : 0 ≤ z) (h1 : z < 10) (x y : Int) (hx : x = dg a k) (hy : y = dg b k) (hz : z = x - q - y + 10 * q') :
 MInv a b (zs ++ [z.toNat]) (k + 1) q' := by
 subst hx hy
 obtain ⟨g1, g2, g3⟩ := h
 have e : ((z.toNat : Nat) : Int) = z := Int.toNat_of_nonneg h0
 refine ⟨g1.append (AllDig.one (by omega)), by simp [g2], ?_⟩
 rw [ofD_append, g2, ofD_take_succ a, ofD_take_succ b]
 simp only [ofD, Nat.mul_zero, Nat.add_zero, Int.natCast_add, Int.natCast_mul, Nat.pow_succ] at g3 ⊢
 rw [e, hz]
 have ea : ((a.getD k 0 : Nat) : Int) = dg a k := rfl
 have eb : ((b.getD k 0 : Nat) : Int) = dg b k := rfl
 rw [ea, eb, Int.mul_assoc]
 simp only [Int.mul_add, Int.mul_sub]
 have e3 : ((10 ^ k : Nat) : Int) * (((10 : Nat) : Int) * q') = ((10 ^ k : Nat) : Int) * (10 * q') := rfl
 rw [e3]
 omega
theorem MInv.done {a b zs : List Nat} {k : Nat} {q : Int} (h : MInv a b zs k q) (ha : a.length = k) (hb : b.length ≤ k) (h0 : 0 ≤ q) (h1 : q ≤ 1) (hle : ofD b ≤ ofD a) : AllDig zs ∧ zs.length = k ∧ ofD zs = ofD a - ofD b := by
 obtain ⟨g1, g2, g3⟩ := h
 rw [List.take_of_length_le (l := a) (by omega), List.take_of_length_le hb] at g3
 have := ofD_lt g1
 rw [g2] at this
 rcases (show q = 0 ∨ q = 1 by omega) with e | e
 · subst e; exact ⟨g1, g2, by omega⟩
 · subst e; omega

theorem one_cells1 (k : IntKind) (x : Int) : ∀ u ∈ [Value.int k x], u.oneCell' = true := by
 intro u hu
 rw [List.mem_singleton] at hu
 subst hu
 rfl
theorem own_next {w w1 : World} {B n : Nat} {v v1 : Value} {xs : List Nat} {x : Int} (h : w1.ownsRow B 3 1 v1 (n + 1) (ci xs ++ [.int .i64 x])) (hn : xs.length = n) (hx : 0 ≤ x) : Own w1 B v1 (xs ++ [x.toNat]) :=
 Own.snoc h hn (Int.toNat_of_nonneg hx).symm
theorem below_next {w wr w1 : World} {B : Nat} {o : Obj} {v : Value} {n : Nat} {xs : List Value} (hb : Below B w wr) (hB : B ≤ wr.heap.size) (hown : wr.ownsRow B 3 1 v n xs) (hg : (wr.alloc o).grownBy w1 v.ownBlock) : Below B w w1 :=
 (hb.alloc hB o).grown hg (by simp; omega) (fun k hk => (hown.lt k hk).1)

theorem Own.row {w : World} {B : Nat} {v : Value} {xs : List Nat} (h : Own w B v xs) : w.ownsRow B 3 1 v xs.length (ci xs) := h
theorem isMinus_at {s : ByteArray} (h : 0 < s.size) : (((s[0]'h).toNat : Int) == 45) = isMinus (LA s) := by
 obtain ⟨r, e⟩ := LA_ne (t := s) h
 rw [e]
 unfold isMinus
 simp only [List.head?_cons]
 rw [Bool.eq_iff_iff, beq_iff_eq, beq_iff_eq, Option.some.injEq]
 constructor
 · intro h1
   exact UInt8.toNat_inj.1 (by simp; omega)
 · intro h1
   rw [h1]; rfl
theorem drop_get {s : ByteArray} {f i : Nat} (hi : i < s.size) (hf : f ≤ i) : ((LA s).drop f)[i - f]? = some s[i] := by
 rw [List.getElem?_drop, show f + (i - f) = i from by omega]
 exact LA_get s i hi
theorem all_drop_step {s : ByteArray} {f i : Nat} (hi : i < s.size) (hf : f ≤ i) (ht : (((LA s).drop f).take (i - f)).all isDig = true) (hd : isDig s[i] = true) : (((LA s).drop f).take (i + 1 - f)).all isDig = true := by
 rw [show i + 1 - f = (i - f) + 1 from by omega, List.take_add_one, drop_get hi hf, List.all_append, ht]
 simp [hd]
theorem all_drop_not {s : ByteArray} {f i : Nat} (hi : i < s.size) (hf : f ≤ i) (hd : isDig s[i] = false) : ((LA s).drop f).all isDig = false := by
 rw [List.all_eq_false]
 exact ⟨s[i], List.mem_of_getElem? (drop_get hi hf), by simpa using hd⟩
theorem good_drop {s : ByteArray} {f : Nat} (h : f < s.size) (h48 : s[f] ≠ 48) : goodDigits ((LA s).drop f) = ((LA s).drop f).all isDig := by
 have hg := drop_get h (Nat.le_refl f)
 rw [Nat.sub_self] at hg
 cases hl : (LA s).drop f with
 | nil => rw [hl] at hg; cases hg
 | cons c r =>
  rw [hl] at hg
  simp only [List.getElem?_cons_zero, Option.some.injEq] at hg
  subst hg
  simp only [goodDigits, List.all_cons]
  rw [show (s[f] != 48) = true from by simpa using h48, Bool.true_and]
theorem good_drop48 {s : ByteArray} {f : Nat} (h : f < s.size) (h48 : s[f] = 48) : goodDigits ((LA s).drop f) = false := by
 have hg := drop_get h (Nat.le_refl f)
 rw [Nat.sub_self, h48] at hg
 cases hl : (LA s).drop f with
 | nil => rw [hl] at hg; cases hg
 | cons c r =>
  rw [hl] at hg
  simp only [List.getElem?_cons_zero, Option.some.injEq] at hg
  subst hg
  simp [goodDigits]
theorem good_drop_nil {s : ByteArray} {f : Nat} (h : s.size ≤ f) : goodDigits ((LA s).drop f) = false := by
 rw [List.drop_eq_nil_of_le (by rw [LA_length]; exact h)]; rfl

theorem validR (s : ByteArray) (w : World) (hs : s.size ≤ maxLen) :
 Calls Tryz.prog 156 #[.string s] w fun e w' => e = .returned (.bool (valid (LA s))) ∧ w = w' := by
 unfold maxLen at hs
 by_cases h48 : LA s = [48]
 · have e48 : (s.toList == [48]) = true := by rw [Lib.toList_data, beq_iff_eq]; exact h48
   have hv : Hid (valid (LA s) = true) := by show _ = _; rw [h48]; decide
   clear h48
   go_enter Tryz.func156, Tryz.ntmps156
   go_wp2_with fail
   go_ret
   exact ⟨ret_bool hv.out.symm, rfl⟩
 · have e48 : (s.toList == [48]) = false := by rw [Lib.toList_data, beq_eq_false_iff_ne]; exact h48
   have hv : valid (LA s) = goodDigits (strip (LA s)) := by
    unfold valid
    rw [show (LA s == [48]) = false from by rw [beq_eq_false_iff_ne]; exact h48, Bool.false_or]
   clear h48
   by_cases h0 : 0 < s.size
   · have hne0 : ¬ s.size = 0 := by omega
     have hmin := isMinus_at h0
     have hne0 : ¬ s.size = 0 := by omega
     have hne1 : decide (s.size = 0) = false := decide_eq_false (by omega)
     have hne2 : decide (s.size ≤ 0) = false := decide_eq_false (by omega)
     cases hm : isMinus (LA s) with
     | true =>
      rw [hm] at hmin
      have hst : Hid (valid (LA s) = goodDigits ((LA s).drop 1)) := by show _ = _; rw [hv]; unfold strip; rw [if_pos hm, List.drop_one]
      clear hv hm
      by_cases hl : 1 < s.size
      · by_cases hz : s[1] = 48
        · have e0 : (((s[1]'hl).toNat : Int) == 48) = true := by rw [byte_ne_48, hz]; rfl
          have hg := qh9 (good_drop48 hl hz)
          clear hz
          go_enter Tryz.func156, Tryz.ntmps156
          go_wp2
          go_ret
          exact ⟨ret_bool (by rw [hst.out, hg.out]), rfl⟩
        · have e0 : (((s[1]'hl).toNat : Int) == 48) = false := by rw [byte_ne_48, beq_eq_false_iff_ne]; exact hz
          have hg := qh9 (good_drop hl hz)
          clear hz
          go_enter Tryz.func156, Tryz.ntmps156
          go_wp2
          go_loop [4] (fun v => ∃ i : Nat, 1 ≤ i ∧ i ≤ s.size ∧ v = .int .i64 i ∧ Hid ((((LA s).drop 1).take (i - 1)).all isDig = true)) (fun v => s.size - (intOf v).toNat)
          case atStart => exact ⟨1, Nat.le_refl _, by omega, rfl, rfl⟩
          case round =>
           obtain ⟨i, hF, hi, rfl, hall⟩ := hrel
           by_cases hit : i < s.size
           · by_cases hd : isDig (s[i]'hit) = true
             · obtain ⟨b1, b2⟩ := (isDig_iff _).1 hd
               have hall2 := qh9 (all_drop_step hit hF hall.out hd)
               clear hd hall
               go_wp2
               go_round
               case rel => exact ⟨i + 1, by omega, by omega, by go_num, hall2⟩
               case measure => simp [intOf]; omega
             · have hn := qh9 (all_drop_not hit hF (by simpa using hd))
               have hd2 : ¬ (48 ≤ ((s[i]'hit).toNat : Int) ∧ ((s[i]'hit).toNat : Int) ≤ 57) := fun h => hd ((isDig_iff _).2 h)
               clear hd hall
               by_cases b1 : ((s[i]'hit).toNat : Int) < 48
               · clear hd2
                 go_wp2
                 go_ret
                 exact ⟨ret_bool (by rw [hst.out, hg.out, hn.out]), rfl⟩
               · have b2 : 57 < ((s[i]'hit).toNat : Int) := by omega
                 clear hd2
                 go_wp2
                 go_ret
                 exact ⟨ret_bool (by rw [hst.out, hg.out, hn.out]), rfl⟩
           · have hfin : Hid (((LA s).drop 1).all isDig = true) := by
              have := hall.out
              rw [List.take_of_length_le (by rw [List.length_drop, LA_length]; omega)] at this
              exact this
             clear hall
             go_wp2
             go_ret
             exact ⟨ret_bool (by rw [hst.out, hg.out, hfin.out]), rfl⟩
      · have hg := qh9 (good_drop_nil (s := s) (f := 1) (by omega))
        go_enter Tryz.func156, Tryz.ntmps156
        go_wp2
        go_ret
        exact ⟨ret_bool (by rw [hst.out, hg.out]), rfl⟩
     | false =>
      rw [hm] at hmin
      have hst : Hid (valid (LA s) = goodDigits ((LA s).drop 0)) := by show _ = _; rw [hv]; unfold strip; rw [hm]; rfl
      clear hv hm
      by_cases hl : 0 < s.size
      · by_cases hz : s[0] = 48
        · have e0 : (((s[0]'hl).toNat : Int) == 48) = true := by rw [byte_ne_48, hz]; rfl
          have hg := qh9 (good_drop48 hl hz)
          clear hz
          go_enter Tryz.func156, Tryz.ntmps156
          go_wp2
          go_ret
          exact ⟨ret_bool (by rw [hst.out, hg.out]), rfl⟩
        · have e0 : (((s[0]'hl).toNat : Int) == 48) = false := by rw [byte_ne_48, beq_eq_false_iff_ne]; exact hz
          have hg := qh9 (good_drop hl hz)
          clear hz
          go_enter Tryz.func156, Tryz.ntmps156
          go_wp2
          go_loop [4] (fun v => ∃ i : Nat, 0 ≤ i ∧ i ≤ s.size ∧ v = .int .i64 i ∧ Hid ((((LA s).drop 0).take (i - 0)).all isDig = true)) (fun v => s.size - (intOf v).toNat)
          case atStart => exact ⟨0, Nat.le_refl _, by omega, rfl, rfl⟩
          case round =>
           obtain ⟨i, hF, hi, rfl, hall⟩ := hrel
           by_cases hit : i < s.size
           · by_cases hd : isDig (s[i]'hit) = true
             · obtain ⟨b1, b2⟩ := (isDig_iff _).1 hd
               have hall2 := qh9 (all_drop_step hit hF hall.out hd)
               clear hd hall
               go_wp2
               go_round
               case rel => exact ⟨i + 1, by omega, by omega, by go_num, hall2⟩
               case measure => simp [intOf]; omega
             · have hn := qh9 (all_drop_not hit hF (by simpa using hd))
               have hd2 : ¬ (48 ≤ ((s[i]'hit).toNat : Int) ∧ ((s[i]'hit).toNat : Int) ≤ 57) := fun h => hd ((isDig_iff _).2 h)
               clear hd hall
               by_cases b1 : ((s[i]'hit).toNat : Int) < 48
               · clear hd2
                 go_wp2
                 go_ret
                 exact ⟨ret_bool (by rw [hst.out, hg.out, hn.out]), rfl⟩
               · have b2 : 57 < ((s[i]'hit).toNat : Int) := by omega
                 clear hd2
                 go_wp2
                 go_ret
                 exact ⟨ret_bool (by rw [hst.out, hg.out, hn.out]), rfl⟩
           · have hfin : Hid (((LA s).drop 0).all isDig = true) := by
              have := hall.out
              rw [List.take_of_length_le (by rw [List.length_drop, LA_length]; omega)] at this
              exact this
             clear hall
             go_wp2
             go_ret
             exact ⟨ret_bool (by rw [hst.out, hg.out, hfin.out]), rfl⟩
      · exact absurd h0 hl
   · have hz0 : s.size = 0 := by omega
     have hst : Hid (valid (LA s) = false) := by
      show _ = _
      rw [hv, List.length_eq_zero_iff.1 (show (LA s).length = 0 by rw [LA_length]; omega)]; rfl
     clear hv
     go_enter Tryz.func156, Tryz.ntmps156
     go_wp2
     go_ret
     exact ⟨ret_bool hst.out.symm, rfl⟩
def RetBD (w : World) (b : Bool) (n : Nat) (e : Ending) (w' : World) : Prop :=
 ∃ A c, e = .returned (.tuple #[.bool b, .slice A (digs n).length c]) ∧ (digs n).length ≤ c ∧ Reads w' w'.heap.size .i64 A (digs n) ∧ Below w.heap.size w w'

theorem dig_above {s : ByteArray} {f i : Nat} (hi : i < s.size) (hf : f ≤ i) (h : ((LA s).drop f).all isDig = true) : isDig s[i] = true :=
 List.all_eq_true.1 h _ (List.mem_of_getElem? (drop_get hi hf))
def lastDigs (s : ByteArray) (k : Nat) : List Nat := (toDigs (LA s)).take (s.size - k)
theorem lastDigs_start (s : ByteArray) : lastDigs s s.size = [] := by unfold lastDigs; rw [Nat.sub_self, List.take_zero]
theorem lastDigs_length {s : ByteArray} {k : Nat} (hk : k ≤ s.size) : (lastDigs s k).length = s.size - k := by
 unfold lastDigs
 rw [List.length_take, toDigs_length, LA_length]
 omega
theorem lastDigs_step {s : ByteArray} {k : Nat} (h0 : 0 < k) (hk : k - 1 < s.size) : lastDigs s (k - 1) = lastDigs s k ++ [s[k - 1].toNat - 48] := by
 unfold lastDigs
 rw [show s.size - (k - 1) = (s.size - k) + 1 from by omega, List.take_add_one]
 have h := toDigs_get hk
 rw [show s.size - 1 - (k - 1) = s.size - k from by omega, List.getD_eq_getElem?_getD] at h
 have hl : s.size - k < (toDigs (LA s)).length := by rw [toDigs_length, LA_length]; omega
 rw [List.getElem?_eq_getElem hl] at h ⊢
 simp only [Option.getD_some] at h
 rw [h]
 rfl
theorem lastDigs_end {s : ByteArray} {f : Nat} (hf : f ≤ s.size) : lastDigs s f = toDigs ((LA s).drop f) := by
 unfold lastDigs toDigs
 rw [← LA_length s] at hf ⊢
 generalize LA s = l at hf ⊢
 rw [← List.map_take, List.take_reverse, show l.length - (l.length - f) = f from by omega]

theorem digitsR (s : ByteArray) (w : World) (hs : s.size ≤ 1000000000) :
 Calls Tryz.prog 129 #[.string s] w (RetBD w (neg (LA s)) (mag (LA s))) := by
 cases hv : valid (LA s) with
 | false =>
  have h1 : Hid (neg (LA s) = false) := by show _ = _; unfold neg; rw [hv]; rfl
  have h2 : Hid (mag (LA s) = 0) := by show _ = _; unfold mag body; rw [hv]; rfl
  go_enter Tryz.func129, Tryz.ntmps129
  go_wp2_with fail
  refine (validR s _ (by unfold maxLen; omega)).mono ?_
  rintro e w' ⟨rfl, rfl⟩
  go_wp2
  go_ret2
  exact ⟨none, 0, by rw [h1.out, h2.out]; rfl, by rw [h2.out]; exact Nat.le_refl _, by rw [h2.out]; exact Reads.nil_, Below.refl _ _⟩
 | true =>
  by_cases h48 : LA s = [48]
  · have e48 : (s.toList == [48]) = true := by rw [Lib.toList_data, beq_iff_eq]; exact h48
    have h1 : Hid (neg (LA s) = false) := by show _ = _; rw [h48]; decide
    have h2 : Hid (mag (LA s) = 0) := by show _ = _; rw [h48]; decide
    clear h48
    go_enter Tryz.func129, Tryz.ntmps129
    go_wp2_with fail
    refine (validR s _ (by unfold maxLen; omega)).mono ?_
    rintro e w' ⟨rfl, rfl⟩
    go_wp2
    go_ret2
    exact ⟨none, 0, by rw [h1.out, h2.out]; rfl, by rw [h2.out]; exact Nat.le_refl _, by rw [h2.out]; exact Reads.nil_, Below.refl _ _⟩
  · have e48 : (s.toList == [48]) = false := by rw [Lib.toList_data, beq_eq_false_iff_ne]; exact h48
    have hgood : goodDigits (strip (LA s)) = true := by
     unfold valid at hv
     rw [show (LA s == [48]) = false from by rw [beq_eq_false_iff_ne]; exact h48, Bool.false_or] at hv
     exact hv
    have h0 : 0 < s.size := by
     rcases Nat.eq_zero_or_pos s.size with h0 | h0
     · rw [List.length_eq_zero_iff.1 (show (LA s).length = 0 by rw [LA_length]; omega)] at hgood; cases hgood
     · exact h0
    have hbody : body (LA s) = strip (LA s) := by unfold body; rw [if_pos hv]
    have hneg : neg (LA s) = isMinus (LA s) := by unfold neg; rw [hv, Bool.true_and]
    have hmin := isMinus_at h0
    obtain ⟨i0, hi, hz0, hz1, hz2⟩ := info_parts infoI
    replace hi := qh9 hi
    replace hz0 := qh9 hz0
    replace hz1 := qh9 hz1
    replace hz2 := qh9 hz2
    have hdm := digs_mag (LA s)
    cases hm : isMinus (LA s) with
    | true =>
     have hdr : strip (LA s) = (LA s).drop 1 := by unfold strip; rw [if_pos hm, List.drop_one]
     rw [hm] at hmin hneg
     rw [hdr] at hgood hbody
     have hne : ¬ (LA s).drop 1 = [48] ∨ True := .inr trivial
     have hall : Hid (((LA s).drop 1).all isDig = true) := good_all hgood
     have hmg : Hid (ofD (lastDigs s 1) = mag (LA s)) := by show _ = _; rw [lastDigs_end (by omega)]; unfold mag; rw [hbody]
     have htr : Hid (Trimmed (lastDigs s 1)) := by show Trimmed _; rw [lastDigs_end (by omega)]; exact trimmed_toDigs hgood
     have had : Hid (AllDig (lastDigs s 1)) := by show AllDig _; rw [lastDigs_end (by omega)]; exact allDig_toDigs hall.out
     have Hneg := qh9 hneg
     clear hdr hdm hbody hgood hneg hm h48 hne
     go_enter Tryz.func129, Tryz.ntmps129
     go_wp2_with fail
     refine (validR s _ (by unfold maxLen; omega)).mono ?_
     rintro e w' ⟨rfl, rfl⟩
     go_wp2
     go_loopw [6, 7] (fun u v wr => ∃ k : Nat, 1 ≤ k ∧ k ≤ s.size ∧ v = .int .i64 ((k : Int) - 1) ∧ Hid (Own wr w.heap.size u (lastDigs s k)) ∧ Hid (Below w.heap.size w wr)) (fun _ v _ => (intOf v + 1).toNat)
     case atStart => exact ⟨s.size, by omega, Nat.le_refl _, rfl, by rw [lastDigs_start]; exact Own.nil_ _ _, Below.refl _ _⟩
     case round =>
      obtain ⟨k, hF, hks, rfl, hown, hbel⟩ := hrel
      have hBs : w.heap.size ≤ wr.heap.size := hbel.out.size
      have hzl : Hid ((lastDigs s k).length = s.size - k) := lastDigs_length hks
      by_cases hkF : 1 < k
      · have hit : k - 1 < s.size := by omega
        obtain ⟨b1, b2⟩ := (isDig_iff _).1 (dig_above hit (by omega) hall.out)
        have hp0 : (0 : Int) ≤ (k : Int) - 1 := by omega
        have hp1 : (k : Int) - 1 < s.size := by omega
        have hp2 : ¬ (k : Int) - 1 < 1 := by omega
        have hnew := qh9 (cell_one_new wr (.int .i64 (((s[k - 1]'hit).toNat : Int) - 48)) 3)
        have hstep := qh9 (lastDigs_step (by omega) hit)
        go_wp2_with (at_builtin; refine wpList_append_own _ rfl (.tmp 27) (.tmp 33) 58 rfl w.heap.size 3 i0 (.int .i64 0) 1 8 Tryz.underlying58 hi.out hz0.out hz1.out hz2.out rfl (by decide) u6 (lastDigs s k).length (ci (lastDigs s k)) rfl ((Own.row hown.out).alloc _) ⟨wr.heap.size, 0, none⟩ 1 1 [.int .i64 (((s[k - 1]'hit).toNat : Int) - 48)] rfl rfl hnew.out (one_cells1 _ _) ?c2 ?c3 ?c4 ?_)
        case c2 => have := hzl.out; unfold maxLen; omega
        case c3 => have := hzl.out; omega
        case c4 => first | omega | (simp; omega)
        intro v1 w1 hown1 hg1 _
        have hown2 : Hid (Own w1 w.heap.size v1 (lastDigs s (k - 1))) := by show Own _ _ _ _; rw [hstep.out]; exact Own.snoc hown1 rfl (by omega)
        have hbel2 := qh9 (below_next hbel.out hBs hown.out hg1)
        clear hown1 hg1 hown hbel hnew hstep
        go_wp2
        go_roundw
        case rel => exact ⟨k - 1, by omega, by omega, by go_num, hown2, hbel2⟩
        case measure => simp [intOf]; omega
      · obtain rfl : k = 1 := by omega
        have hp2 : (1 : Int) - 1 < 1 := by omega
        obtain ⟨A2, c2, rfl, hc2, hR2⟩ := hown.out.form
        have hd : Hid (lastDigs s 1 = digs (mag (LA s))) := by show _ = _; rw [← hmg.out]; exact (digs_ofD had.out htr.out).symm
        rw [hd.out] at hc2 hR2 ⊢
        replace hR2 := qh9 hR2
        clear hown
        go_wp2
        go_ret2
        exact ⟨A2, c2, by rw [Hneg.out]; rfl, hc2, hR2.out, hbel.out⟩
    | false =>
     have hdr : strip (LA s) = (LA s).drop 0 := by unfold strip; rw [hm]; rfl
     rw [hm] at hmin hneg
     rw [hdr] at hgood hbody
     have hne : ¬ (LA s).drop 0 = [48] ∨ True := .inr trivial
     have hall : Hid (((LA s).drop 0).all isDig = true) := good_all hgood
     have hmg : Hid (ofD (lastDigs s 0) = mag (LA s)) := by show _ = _; rw [lastDigs_end (by omega)]; unfold mag; rw [hbody]
     have htr : Hid (Trimmed (lastDigs s 0)) := by show Trimmed _; rw [lastDigs_end (by omega)]; exact trimmed_toDigs hgood
     have had : Hid (AllDig (lastDigs s 0)) := by show AllDig _; rw [lastDigs_end (by omega)]; exact allDig_toDigs hall.out
     have Hneg := qh9 hneg
     clear hdr hdm hbody hgood hneg hm h48 hne
     go_enter Tryz.func129, Tryz.ntmps129
     go_wp2_with fail
     refine (validR s _ (by unfold maxLen; omega)).mono ?_
     rintro e w' ⟨rfl, rfl⟩
     go_wp2
     go_loopw [6, 7] (fun u v wr => ∃ k : Nat, 0 ≤ k ∧ k ≤ s.size ∧ v = .int .i64 ((k : Int) - 1) ∧ Hid (Own wr w.heap.size u (lastDigs s k)) ∧ Hid (Below w.heap.size w wr)) (fun _ v _ => (intOf v + 1).toNat)
     case atStart => exact ⟨s.size, by omega, Nat.le_refl _, rfl, by rw [lastDigs_start]; exact Own.nil_ _ _, Below.refl _ _⟩
     case round =>
      obtain ⟨k, hF, hks, rfl, hown, hbel⟩ := hrel
      have hBs : w.heap.size ≤ wr.heap.size := hbel.out.size
      have hzl : Hid ((lastDigs s k).length = s.size - k) := lastDigs_length hks
      by_cases hkF : 0 < k
      · have hit : k - 1 < s.size := by omega
        obtain ⟨b1, b2⟩ := (isDig_iff _).1 (dig_above hit (by omega) hall.out)
        have hp0 : (0 : Int) ≤ (k : Int) - 1 := by omega
        have hp1 : (k : Int) - 1 < s.size := by omega
        have hp2 : ¬ (k : Int) - 1 < 0 := by omega
        have hnew := qh9 (cell_one_new wr (.int .i64 (((s[k - 1]'hit).toNat : Int) - 48)) 3)
        have hstep := qh9 (lastDigs_step (by omega) hit)
        go_wp2_with (at_builtin; refine wpList_append_own _ rfl (.tmp 27) (.tmp 33) 58 rfl w.heap.size 3 i0 (.int .i64 0) 1 8 Tryz.underlying58 hi.out hz0.out hz1.out hz2.out rfl (by decide) u6 (lastDigs s k).length (ci (lastDigs s k)) rfl ((Own.row hown.out).alloc _) ⟨wr.heap.size, 0, none⟩ 1 1 [.int .i64 (((s[k - 1]'hit).toNat : Int) - 48)] rfl rfl hnew.out (one_cells1 _ _) ?c2 ?c3 ?c4 ?_)
        case c2 => have := hzl.out; unfold maxLen; omega
        case c3 => have := hzl.out; omega
        case c4 => first | omega | (simp; omega)
        intro v1 w1 hown1 hg1 _
        have hown2 : Hid (Own w1 w.heap.size v1 (lastDigs s (k - 1))) := by show Own _ _ _ _; rw [hstep.out]; exact Own.snoc hown1 rfl (by omega)
        have hbel2 := qh9 (below_next hbel.out hBs hown.out hg1)
        clear hown1 hg1 hown hbel hnew hstep
        go_wp2
        go_roundw
        case rel => exact ⟨k - 1, by omega, by omega, by go_num, hown2, hbel2⟩
        case measure => simp [intOf]; omega
      · obtain rfl : k = 0 := by omega
        have hp2 : (0 : Int) - 1 < 0 := by omega
        obtain ⟨A2, c2, rfl, hc2, hR2⟩ := hown.out.form
        have hd : Hid (lastDigs s 0 = digs (mag (LA s))) := by show _ = _; rw [← hmg.out]; exact (digs_ofD had.out htr.out).symm
        rw [hd.out] at hc2 hR2 ⊢
        replace hR2 := qh9 hR2
        clear hown
        go_wp2
        go_ret2
        exact ⟨A2, c2, by rw [Hneg.out]; rfl, hc2, hR2.out, hbel.out⟩
theorem dg_mid {pre ss post : List Nat} {o i : Nat} (ho : pre.length = o) (hi : i < ss.length) : dg (pre ++ ss ++ post) (o + i) = dg ss i := by
 subst ho
 unfold dg
 simp only [List.getD_eq_getElem?_getD]
 rw [List.append_assoc, List.getElem?_append_right (by omega), Nat.add_sub_cancel_left, List.getElem?_append_left hi]
theorem set_mid {pre ss post : List Nat} {o i : Nat} (d : Nat) (ho : pre.length = o) (hi : i < ss.length) : (pre ++ ss ++ post).set (o + i) d = pre ++ ss.set i d ++ post := by
 subst ho
 rw [List.append_assoc, List.set_append_right _ _ (by omega), Nat.add_sub_cancel_left, List.set_append_left _ _ hi, List.append_assoc]
def TakenAway (g : Nat) (zs : List Nat) (m : Nat) (pre post : List Nat) (w : World) (e : Ending) (w' : World) : Prop :=
 e = .returned (.tuple #[]) ∧ ∃ ss, ss.length = zs.length ∧ AllDig ss ∧ ofD ss + m = ofD zs ∧ Row w' g 5 .u8 (pre ++ ss ++ post) ∧ Only g w w'

theorem SubInv.ends {zs ss : List Nat} {i m : Nat} {q : Int} (h : SubInv zs (digs m) ss i q) (hi : (digs m).length ≤ i) (hq : q = 0) : ss.length = zs.length ∧ AllDig ss ∧ ofD ss + m = ofD zs := by
 obtain ⟨h1, h2, h3⟩ := h.done hi hq
 rw [ofD_digs] at h3
 exact ⟨h2, h1, h3⟩

theorem takeAway_any (g : Nat) (pre zs post : List Nat) (A' : Option Addr) (m o a b c d B : Nat) (w : World) (hpre : Hid (pre.length = o)) (has : Hid (zs.length = a)) (hb : LenIs m b) (hrow : Row w g 5 .u8 (pre ++ zs ++ post))
 (hda : AllDig zs) (h' : Reads w B .u8 A' (digs m)) (hBg : B ≤ g) (hle : m ≤ ofD zs) (h9 : a ≤ 10000000000) :
 Calls Tryz.prog 212 #[.slice (some ⟨g, o, none⟩) a c, .slice A' b d] w (TakenAway g zs m pre post w) := by
 have hba : b ≤ a := by
  have h1 := ofD_lt hda
  have h2 : (digs m).length ≤ zs.length := digs_length_le (Nat.lt_of_le_of_lt hle h1)
  have := has.out
  unfold LenIs at hb
  omega
 go_enter Tryz.func212, Tryz.ntmps212
 go_wp2
 go_loopw [4, 9] (fun u v wr => ∃ (i : Nat) (q : Int) (ss : List Nat), i ≤ a ∧ v = .int .i64 i ∧ u = .int .u8 q ∧ 0 ≤ q ∧ q ≤ 1 ∧ Hid (SubInv zs (digs m) ss i q) ∧ Row wr g 5 .u8 (pre ++ ss ++ post) ∧ Only g w wr) (fun _ v _ => a - (intOf v).toNat)
 case atStart => exact ⟨0, 0, zs, Nat.zero_le _, rfl, rfl, by omega, by omega, SubInv.start hda, hrow, Only.refl _ _⟩
 case round =>
  clear hrow
  obtain ⟨i, q, ss, hi, rfl, rfl, hq0, hq1, hinv, hrow, honly⟩ := hrel
  by_cases hia : i < a
  · have hss : Hid (ss.length = a) := by have := has.out; exact hinv.out.2.1.trans this
    have x0 := dg_nonneg ss i
    have x1 := dg_lt hinv.out.1 i
    have y0 := dg_nonneg (digs m) i
    have y1 := dg_lt (allDig_digs m) i
    have hst : wr.cell? ⟨g, o + i, none⟩ = some (.int .u8 (dg ss i)) := by
     have := hrow.cell (o + i) (by have h1 := hpre.out; have h2 := hss.out; simp only [List.length_append]; omega)
     rwa [dg_mid hpre.out (by have := hss.out; omega)] at this
    have hfz := hrow.frozen (o + i)
    by_cases hib : i < b
    · obtain ⟨b2, o2, rfl, hB2, hcell2⟩ := (h'.below (honly.below hBg)) (by unfold LenIs at hb; omega)
      replace hcell2 := hcell2 i (by unfold LenIs at hb; omega)
      have hd1 : decide (b ≤ i) = false := by simp; omega
      have hd2 : decide (i < b) = true := by simp; omega
      by_cases hbo : dg ss i < q + dg (digs m) i
      · have hn0 : 0 ≤ dg ss i + 10 - (q + dg (digs m) i) := by omega
        have hn1 : dg ss i + 10 - (q + dg (digs m) i) < 10 := by omega
        have hstep := qh9 (hinv.out.step (i := i) (q' := 1) (d := (dg ss i + 10 - (q + dg (digs m) i)).toNat) (by have := has.out; omega) (by omega) (by rw [Int.toNat_of_nonneg hn0]; omega))
        have hrow1 := (hrow.set_ (o + i) (dg ss i + 10).toNat (dg ss i + 10) (by omega)).set_ (o + i) (dg ss i + 10 - (q + dg (digs m) i)).toNat (dg ss i + 10 - (q + dg (digs m) i)) (by omega)
        rw [List.set_set, set_mid _ hpre.out (by have := hss.out; omega)] at hrow1
        have honly1 := (honly.setCell (p := ⟨g, o + i, none⟩) rfl (.int .u8 (dg ss i + 10))).setCell (p := ⟨g, o + i, none⟩) rfl (.int .u8 (dg ss i + 10 - (q + dg (digs m) i)))
        replace hrow1 := qh9 hrow1
        replace honly1 := qh9 honly1
        clear hinv hrow honly h'
        go_wp2
        go_roundw
        case rel => exact ⟨i + 1, 1, _, by omega, by go_num, rfl, by omega, by omega, hstep, hrow1.out, honly1.out⟩
        case measure => simp [intOf]; omega
      · have hn0 : 0 ≤ dg ss i - (q + dg (digs m) i) := by omega
        have hn1 : dg ss i - (q + dg (digs m) i) < 10 := by omega
        have hstep := qh9 (hinv.out.step (i := i) (q' := 0) (d := (dg ss i - (q + dg (digs m) i)).toNat) (by have := has.out; omega) (by omega) (by rw [Int.toNat_of_nonneg hn0]; omega))
        have hrow1 := hrow.set_ (o + i) (dg ss i - (q + dg (digs m) i)).toNat (dg ss i - (q + dg (digs m) i)) (by omega)
        rw [set_mid _ hpre.out (by have := hss.out; omega)] at hrow1
        have honly1 := honly.setCell (p := ⟨g, o + i, none⟩) rfl (.int .u8 (dg ss i - (q + dg (digs m) i)))
        replace hrow1 := qh9 hrow1
        replace honly1 := qh9 honly1
        clear hinv hrow honly h'
        go_wp2
        go_roundw
        case rel => exact ⟨i + 1, 0, _, by omega, by go_num, rfl, by omega, by omega, hstep, hrow1.out, honly1.out⟩
        case measure => simp [intOf]; omega
    · have hd1 : decide (b ≤ i) = true := by simp; omega
      have hd2 : decide (i < b) = false := by simp; omega
      have e0 : dg (digs m) i = 0 := dg_out (by unfold LenIs at hb; omega)
      rcases (show q = 0 ∨ q = 1 by omega) with rfl | rfl
      · have hfin := qh9 (hinv.out.ends (by unfold LenIs at hb; omega) rfl)
        clear e0
        replace hrow := qh9 hrow
        replace honly := qh9 honly
        go_wp2
        refine bodyPost_ret (results_none rfl _ _ _) rfl ?_
        exact ⟨rfl, ss, hfin.out.1, hfin.out.2.1, hfin.out.2.2, hrow.out, honly.out⟩
      · replace e0 := qh9 e0
        by_cases hbo : dg ss i < 1
        · have hn0 : 0 ≤ dg ss i + 10 - 1 := by omega
          have hn1 : dg ss i + 10 - 1 < 10 := by omega
          have hstep := qh9 (hinv.out.step (i := i) (q' := 1) (d := (dg ss i + 10 - 1).toNat) (by have := has.out; omega) (by omega) (by rw [Int.toNat_of_nonneg hn0]; have := e0.out; omega))
          have hrow1 := (hrow.set_ (o + i) (dg ss i + 10).toNat (dg ss i + 10) (by omega)).set_ (o + i) (dg ss i + 10 - 1).toNat (dg ss i + 10 - 1) (by omega)
          rw [List.set_set, set_mid _ hpre.out (by have := hss.out; omega)] at hrow1
          have honly1 := (honly.setCell (p := ⟨g, o + i, none⟩) rfl (.int .u8 (dg ss i + 10))).setCell (p := ⟨g, o + i, none⟩) rfl (.int .u8 (dg ss i + 10 - 1))
          replace hrow1 := qh9 hrow1
          replace honly1 := qh9 honly1
          clear hinv hrow honly h'
          go_wp2
          go_roundw
          case rel => exact ⟨i + 1, 1, _, by omega, by go_num, rfl, by omega, by omega, hstep, hrow1.out, honly1.out⟩
          case measure => simp [intOf]; omega
        · have hn0 : 0 ≤ dg ss i - 1 := by omega
          have hn1 : dg ss i - 1 < 10 := by omega
          have hstep := qh9 (hinv.out.step (i := i) (q' := 0) (d := (dg ss i - 1).toNat) (by have := has.out; omega) (by omega) (by rw [Int.toNat_of_nonneg hn0]; have := e0.out; omega))
          have hrow1 := hrow.set_ (o + i) (dg ss i - 1).toNat (dg ss i - 1) (by omega)
          rw [set_mid _ hpre.out (by have := hss.out; omega)] at hrow1
          have honly1 := honly.setCell (p := ⟨g, o + i, none⟩) rfl (.int .u8 (dg ss i - 1))
          replace hrow1 := qh9 hrow1
          replace honly1 := qh9 honly1
          clear hinv hrow honly h'
          go_wp2
          go_roundw
          case rel => exact ⟨i + 1, 0, _, by omega, by go_num, rfl, by omega, by omega, hstep, hrow1.out, honly1.out⟩
          case measure => simp [intOf]; omega
  · obtain rfl : i = a := by omega
    have hq : q = 0 := hinv.out.none_left (by unfold LenIs at hb; omega) has.out.symm (by rw [ofD_digs]; exact hle) hq0 hq1
    have hfin := qh9 (hinv.out.ends (by unfold LenIs at hb; omega) hq)
    clear hq
    replace hrow := qh9 hrow
    replace honly := qh9 honly
    go_wp2
    go_end0
    exact ⟨rfl, ss, hfin.out.1, hfin.out.2.1, hfin.out.2.2, hrow.out, honly.out⟩
def Cloned (xs : List Nat) (w : World) (e : Ending) (w' : World) : Prop :=
 ∃ g c, e = .returned (.slice (some ⟨g, 0, none⟩) xs.length c) ∧ w.heap.size ≤ g ∧ xs.length ≤ c ∧ Row w' g 5 .u8 xs ∧ Below w.heap.size w w'

theorem info8 : (Tryz.prog.info? 5).map (fun i => (i.zero, i.size, i.bytes)) = some (some (.int .u8 0), 1, 1) := by kernel_rfl

theorem cloned_of {w w0 w1 : World} {n : Nat} {xs : List Nat} {v : Value} (hn : xs.length = n) (hb : Below w.heap.size w w0) (hs : w.heap.size ≤ w0.heap.size)
 (hown : w1.ownsRow w.heap.size 5 1 v n (xs.map fun d : Nat => Value.int .u8 (d : Int))) (hg : w0.grownBy w1 (some w.heap.size)) (hv : v = .slice none 0 0 → False) : Cloned xs w (.returned v) w1 := by
 obtain ⟨A, c, rfl⟩ : ∃ A c, v = .slice A n c := by
  rcases hown.2 with ⟨h1, h2⟩ | ⟨g, cap, cur, h1, _⟩
  · exact absurd h1 (fun h => hv h)
  · exact ⟨_, _, h1⟩
 have hA : A ≠ none := by
  rintro rfl
  rcases hown.2 with ⟨h1, h2⟩ | ⟨g, cap, cur, h1, _⟩
  · exact hv h1
  · injection h1 with h1; cases h1
 obtain ⟨g, rfl, hbg, hnc, hrow⟩ := Row.of_own hown hA
 exact ⟨g, c, by rw [hn], hbg, by omega, hrow, hb.grown hg hs (fun k hk => by injection hk with hk; omega)⟩

theorem clone_some (x : Addr) (n c : Nat) (xs : List Nat) (w : World) (hn : Hid (xs.length = n)) (h : Reads w w.heap.size .u8 (some x) xs) (h9 : n ≤ 10000000000) :
 Calls Tryz.prog 210 #[.slice (some x) n c] w (Cloned xs w) := by
 have heq := fun W : World => Lib.run_eql_slice_nil (P := Tryz.prog) W 187 5 (some x) n c 0 0 Tryz.underlying187
 have hcells := qh9 (h.alloc (Nat.le_refl _) (.cells #[] 5)).cells
 obtain ⟨i0, hi, hz0, hz1, hz2⟩ := info_parts info8
 replace hi := qh9 hi
 replace hz0 := qh9 hz0
 replace hz1 := qh9 hz1
 replace hz2 := qh9 hz2
 go_enter Tryz.func210, Tryz.ntmps210
 go_wp2_with (at_builtin; refine wpList_append_own _ rfl (.tmp 5) (.tmp 6) 187 rfl w.heap.size 5 i0 (.int .u8 0) 1 1 Tryz.underlying187 hi.out hz0.out hz1.out hz2.out rfl (by decide) _ 0 [] rfl (World.ownsRow_made w #[] 0 (Nat.le_refl _) (by decide) rfl) x n c (xs.map fun d : Nat => Value.int .u8 (d : Int)) rfl ?c1 hcells.out (one_cells _ _) ?c2 ?c3 ?c4 ?_)
 case c1 => have := hn.out; simpa using this
 case c2 => unfold maxLen; omega
 case c3 => omega
 case c4 => simp
 intro v1 w1 hown hg hnil
 clear heq
 replace hown := qh9 hown
 replace hg := qh9 hg
 replace hnil := qh9 hnil
 go_wp2
 go_ret
 exact cloned_of (v := v1) hn.out ((Below.refl _ _).alloc (Nat.le_refl _) _) (by simp) hown.out hg.out hnil.out

end Go.Proofs.YtinjhnnpbejccaaGreatDoor
