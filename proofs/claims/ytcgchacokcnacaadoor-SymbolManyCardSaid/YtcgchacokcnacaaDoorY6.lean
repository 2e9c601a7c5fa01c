/- What may be imported, what may be defined: the program. -/
import Derived.Test.YtcgchacokcnacaaDoorY5
import Derived.Deep.RegionHeld3
namespace Go.Proofs.YtcgchacokcnacaaDoor
open Go Go.RowKit
set_option linter.unusedVariables false

/-- The first reason why a symbol can't be imported behind the earlier ones: the error's number. -/
def chkImp (l : List Pg) (pre : List Sy) (s : Sy) : Int := if symOk s.1 s.2 = true then (if homeM l s = true then (if (impM pre s.2).isSome = true then 4 else 0) else 13) else 3
/-- .. and a list of imports. -/
def chkL (l : List Pg) : List Sy → List Sy → Int
  | _, [] => 0
  | pre, s :: r => if chkImp l pre s = 0 then chkL l (pre ++ [s]) r else chkImp l pre s
def chkPkg (l : List Pg) (p : Pg) : Int := if pkgOk p.1 = true then (if (findM l p.1).isSome = true then 4 else if 200 < p.2.length then 2 else chkL l [] p.2) else 3
/-- What Define returns. -/
def defineM (l : List Pg) (p : Pg) : List Pg × Int := if chkPkg l p = 0 then (l ++ [p], 0) else ([], chkPkg l p)
theorem chkL_at {l : List Pg} {q : List Sy} {i : Nat} (hi : i < q.length) : chkL l (q.take i) (q.drop i) = if chkImp l (q.take i) q[i] = 0 then chkL l (q.take (i + 1)) (q.drop (i + 1)) else chkImp l (q.take i) q[i] := by
  rw [List.drop_eq_getElem_cons hi]
  conv => lhs; unfold chkL
  rw [List.take_append_getElem hi]
theorem SyV.take {w : World} {q : List Sy} {A : Option Addr} {c i : Nat} (h : SyV w q (.slice A q.length c)) (hi : i ≤ q.length) : SyV w (q.take i) (.slice A i c) := by
  obtain ⟨A', c', e, h2, h3, h4⟩ := h
  injection e with e1 e2 e3
  subst e1
  subst e3
  have hl : (q.take i).length = i := by rw [List.length_take]; omega
  refine ⟨A, c, by rw [hl], by omega, h3, fun h0 => ?_⟩
  obtain ⟨b, o, h5, h6, h7⟩ := h4 (by omega)
  refine ⟨b, o, h5, h6, fun k hk => ?_⟩
  have hk' : k < q.length := by omega
  have := h7 k hk'
  rw [List.getElem_take]
  exact this
set_option maxHeartbeats 4000000 in
set_option maxRecDepth 100000 in
theorem checkImportY (l : List Pg) (v : Value) (pre : List Sy) (u : Value) (s1 s2 : ByteArray) (w : World) (hv : PgV w l v) (hu : SyV w pre u) (hl : l.length ≤ 1000000) (hi : ∀ p ∈ l, p.2.length ≤ 1000000) (hp : pre.length ≤ 1000000) :
    Calls Tryd.prog 18 #[v, u, .agg #[.string s1, .string s2]] w (RetY w (.int .i64 (chkImp l pre (s1, s2)))) := by
  have T := SB.new w (.string s1) (.string s2)
  have hB0 := Below.alloc (Below.refl w.heap.size w) (Nat.le_refl _) (.cells #[.string s1, .string s2] 29)
  have CH : Hid (∀ X, Below w.heap.size w X → Calls Tryd.prog 10 #[v, .agg #[.string s1, .string s2]] X (RetY X (.bool (homeM l (s1, s2))))) := fun X hX => homeY l v s1 s2 X (hv.keep hX) hl hi
  have CI : Hid (∀ X, Below w.heap.size w X → Calls Tryd.prog 14 #[u, .string s2] X (RetS X (impM pre s2))) := fun X hX => importedY pre u s2 X (hu.keep hX) hp
  clear hv hu hi
  obtain ⟨r, hr⟩ : ∃ r, chkImp l pre (s1, s2) = r := ⟨_, rfl⟩
  rw [hr]
  unfold chkImp at hr
  replace hr : (if symOk s1 s2 = true then (if homeM l (s1, s2) = true then (if (impM pre s2).isSome = true then 4 else 0) else 13) else 3) = r := hr
  cases hs : symOk s1 s2 with
  | false =>
    rw [hs, if_neg (by simp)] at hr
    subst hr
    go_enter Tryd.func18, Tryd.ntmps18
    go_wp2_with fail
    generalize w.alloc (.cells #[.string s1, .string s2] 29) = W0 at T hB0 ⊢
    have m0 := T.c0
    have m1 := T.c1
    go_wp2_with fail
    refine (validSY s1 s2 _).mono ?_
    rintro e w1 ⟨rfl, hb⟩
    rw [hs]
    have HB := Lib.hid (chainY hB0 hb (Nat.le_refl _))
    clear hb T hB0 m0 m1
    go_wp2
    go_ret
    exact ⟨rfl, HB.out⟩
  | true =>
    rw [hs, if_pos rfl] at hr
    cases hh : homeM l (s1, s2) with
    | false =>
      rw [hh, if_neg (by simp)] at hr
      subst hr
      go_enter Tryd.func18, Tryd.ntmps18
      go_wp2_with fail
      generalize w.alloc (.cells #[.string s1, .string s2] 29) = W0 at T hB0 ⊢
      have m0 := T.c0
      have m1 := T.c1
      go_wp2_with fail
      refine (validSY s1 s2 _).mono ?_
      rintro e w1 ⟨rfl, hb⟩
      rw [hs]
      have HT := Lib.hid (SB.keep T hb)
      have HB := Lib.hid (chainY hB0 hb (Nat.le_refl _))
      clear hb T hB0 m0 m1
      have m0 := HT.out.c0
      have m1 := HT.out.c1
      go_wp2_with fail
      refine (CH.out _ HB.out).mono ?_
      rintro e w2 ⟨rfl, hb⟩
      rw [hh]
      replace HB := Lib.hid (chainY HB.out hb (Nat.le_refl _))
      clear hb m0 m1
      go_wp2
      go_ret
      exact ⟨rfl, HB.out⟩
    | true =>
      rw [hh, if_pos rfl] at hr
      cases hm : impM pre s2 with
      | none =>
        rw [hm] at hr
        replace hr : (0 : Int) = r := hr
        subst hr
        go_enter Tryd.func18, Tryd.ntmps18
        go_wp2_with fail
        generalize w.alloc (.cells #[.string s1, .string s2] 29) = W0 at T hB0 ⊢
        have m0 := T.c0
        have m1 := T.c1
        go_wp2_with fail
        refine (validSY s1 s2 _).mono ?_
        rintro e w1 ⟨rfl, hb⟩
        rw [hs]
        have HT := Lib.hid (SB.keep T hb)
        have HB := Lib.hid (chainY hB0 hb (Nat.le_refl _))
        clear hb T hB0 m0 m1
        have m0 := HT.out.c0
        have m1 := HT.out.c1
        go_wp2_with fail
        refine (CH.out _ HB.out).mono ?_
        rintro e w2 ⟨rfl, hb⟩
        rw [hh]
        replace HT := Lib.hid (SB.keep HT.out hb)
        replace HB := Lib.hid (chainY HB.out hb (Nat.le_refl _))
        clear hb m0 m1
        have m0 := HT.out.c0
        have m1 := HT.out.c1
        go_wp2_with fail
        refine (CI.out _ HB.out).mono ?_
        rw [hm]
        rintro e w3 ⟨rfl, hb⟩
        replace HB := Lib.hid (chainY HB.out hb (Nat.le_refl _))
        clear hb m0 m1
        go_wp2
        go_ret
        exact ⟨rfl, chainY HB.out (Below.alloc (Below.refl _ _) (Nat.le_refl _) _) (Nat.le_refl _)⟩
      | some t =>
        rw [hm] at hr
        replace hr : (4 : Int) = r := hr
        subst hr
        go_enter Tryd.func18, Tryd.ntmps18
        go_wp2_with fail
        generalize w.alloc (.cells #[.string s1, .string s2] 29) = W0 at T hB0 ⊢
        have m0 := T.c0
        have m1 := T.c1
        go_wp2_with fail
        refine (validSY s1 s2 _).mono ?_
        rintro e w1 ⟨rfl, hb⟩
        rw [hs]
        have HT := Lib.hid (SB.keep T hb)
        have HB := Lib.hid (chainY hB0 hb (Nat.le_refl _))
        clear hb T hB0 m0 m1
        have m0 := HT.out.c0
        have m1 := HT.out.c1
        go_wp2_with fail
        refine (CH.out _ HB.out).mono ?_
        rintro e w2 ⟨rfl, hb⟩
        rw [hh]
        replace HT := Lib.hid (SB.keep HT.out hb)
        replace HB := Lib.hid (chainY HB.out hb (Nat.le_refl _))
        clear hb m0 m1
        have m0 := HT.out.c0
        have m1 := HT.out.c1
        go_wp2_with fail
        refine (CI.out _ HB.out).mono ?_
        rw [hm]
        rintro e w3 ⟨rfl, hb⟩
        replace HB := Lib.hid (chainY HB.out hb (Nat.le_refl _))
        clear hb m0 m1
        go_wp2
        go_ret
        exact ⟨rfl, chainY HB.out (Below.alloc (Below.refl _ _) (Nat.le_refl _) _) (Nat.le_refl _)⟩
/-- The loop of checkPackage. -/
def ChkW (w wr : World) (g : Nat) (n : ByteArray) (u : Value) (l : List Pg) (q : List Sy) (i : Nat) (R : Int) : Prop :=
  chkL l (q.take i) (q.drop i) = R ∧ Below w.heap.size w wr ∧ PB wr g (.string n) u
set_option maxHeartbeats 16000000 in
set_option maxRecDepth 100000 in
theorem checkPackageY (l : List Pg) (v : Value) (n : ByteArray) (q : List Sy) (u : Value) (w : World) (hv : PgV w l v) (hu : SyV w q u) (hl : l.length ≤ 1000000) (hi : ∀ p ∈ l, p.2.length ≤ 1000000) (hq : q.length ≤ 1000000) :
    Calls Tryd.prog 12 #[v, .agg #[.string n, u]] w (RetY w (.int .i64 (chkPkg l (n, q)))) := by
  have T := PB.new w (.string n) u
  have hB0 := Below.alloc (Below.refl w.heap.size w) (Nat.le_refl _) (.cells #[.string n, u] 26)
  have CF : Hid (∀ X, Below w.heap.size w X → Calls Tryd.prog 13 #[v, .string n] X (RetF X (findM l n))) := fun X hX => findY l v n X (hv.keep hX) hl
  have HU := Lib.hid hu
  obtain ⟨A, c, eu, hlc, hcm, hA⟩ := hu
  subst eu
  have CK : Hid (∀ X i s1 s2, i ≤ q.length → Below w.heap.size w X → Calls Tryd.prog 18 #[v, .slice A i c, .agg #[.string s1, .string s2]] X (RetY X (.int .i64 (chkImp l (q.take i) (s1, s2))))) := fun X i s1 s2 hi' hX => checkImportY l v (q.take i) (.slice A i c) s1 s2 X (hv.keep hX) ((HU.out.keep hX).take hi') hl hi (by rw [List.length_take]; omega)
  have HA := Lib.hid hA
  clear hv hi HU hA
  obtain ⟨L, hL⟩ : ∃ L, q.length = L := ⟨_, rfl⟩
  obtain ⟨r, hr⟩ : ∃ r, chkPkg l (n, q) = r := ⟨_, rfl⟩
  rw [hr]
  unfold chkPkg at hr
  replace hr : (if pkgOk n = true then (if (findM l n).isSome = true then 4 else if 200 < q.length then 2 else chkL l [] q) else 3) = r := hr
  rw [hL] at hr hq hlc T hB0 ⊢
  have HL := Lib.hid hL
  clear hL
  cases hs : pkgOk n with
  | false =>
    rw [hs, if_neg (by simp)] at hr
    subst hr
    go_enter Tryd.func12, Tryd.ntmps12
    go_wp2_with fail
    generalize w.alloc (.cells #[.string n, .slice A L c] 26) = W0 at T hB0 ⊢
    have m0 := T.c0
    have m1 := T.c1
    go_wp2_with fail
    refine (validPY n _).mono ?_
    rintro e w1 ⟨rfl, hb⟩
    rw [hs]
    have HB := Lib.hid (chainY hB0 hb (Nat.le_refl _))
    clear hb T hB0 m0 m1
    go_wp2
    go_ret
    exact ⟨rfl, HB.out⟩
  | true =>
    rw [hs, if_pos rfl] at hr
    cases hf : findM l n with
    | some p =>
      rw [hf] at hr CF
      replace hr : (4 : Int) = r := hr
      subst hr
      go_enter Tryd.func12, Tryd.ntmps12
      go_wp2_with fail
      generalize w.alloc (.cells #[.string n, .slice A L c] 26) = W0 at T hB0 ⊢
      have m0 := T.c0
      have m1 := T.c1
      go_wp2_with fail
      refine (validPY n _).mono ?_
      rintro e w1 ⟨rfl, hb⟩
      rw [hs]
      have HT := Lib.hid (PB.keep T hb)
      have HB := Lib.hid (chainY hB0 hb (Nat.le_refl _))
      clear hb T hB0 m0 m1
      have m0 := HT.out.c0
      have m1 := HT.out.c1
      go_wp2_with fail
      refine (CF.out _ HB.out).mono ?_
      rintro e w2 ⟨u2, rfl, hu2, hb⟩
      obtain ⟨A2, c2, rfl, _, _, _⟩ := hu2
      replace HB := Lib.hid (chainY HB.out hb (Nat.le_refl _))
      clear hb m0 m1
      go_wp2
      go_ret
      exact ⟨rfl, chainY HB.out (Below.alloc (Below.refl _ _) (Nat.le_refl _) _) (Nat.le_refl _)⟩
    | none =>
      rw [hf] at hr CF
      replace hr : (if 200 < L then 2 else chkL l [] q) = r := hr
      by_cases h2 : 200 < L
      · rw [if_pos h2] at hr
        subst hr
        have h3 : (200 : Int) < (L : Int) := by omega
        go_enter Tryd.func12, Tryd.ntmps12
        go_wp2_with fail
        generalize w.alloc (.cells #[.string n, .slice A L c] 26) = W0 at T hB0 ⊢
        have m0 := T.c0
        have m1 := T.c1
        go_wp2_with fail
        refine (validPY n _).mono ?_
        rintro e w1 ⟨rfl, hb⟩
        rw [hs]
        have HT := Lib.hid (PB.keep T hb)
        have HB := Lib.hid (chainY hB0 hb (Nat.le_refl _))
        clear hb T hB0 m0 m1
        have m0 := HT.out.c0
        have m1 := HT.out.c1
        go_wp2_with fail
        refine (CF.out _ HB.out).mono ?_
        rintro e w2 ⟨rfl, hb⟩
        go_upto_region 4 with fail
        have HT2 : Hid (PB (w2.alloc (.cells #[.string ⟨#[]⟩, .slice none 0 0] 26)) w.heap.size (.string n) (.slice A L c)) := PB.keep (PB.keep HT.out hb) (Below.alloc (Below.refl _ _) (Nat.le_refl _) _)
        have HB2 : Hid (Below w.heap.size w (w2.alloc (.cells #[.string ⟨#[]⟩, .slice none 0 0] 26))) := chainY (chainY HB.out hb (Nat.le_refl _)) (Below.alloc (Below.refl _ _) (Nat.le_refl _) _) (Nat.le_refl _)
        clear hb m0 m1 HT HB
        generalize w2.alloc (.cells #[.string ⟨#[]⟩, .slice none 0 0] 26) = X2 at HT2 HB2 ⊢
        have m0 := HT2.out.c0
        have m1 := HT2.out.c1
        go_wp2
        go_ret
        exact ⟨rfl, HB2.out⟩
      · rw [if_neg h2] at hr
        have h3 : ¬ (200 : Int) < (L : Int) := by omega
        have H0 : Hid (chkL l (q.take 0) (q.drop 0) = r) := hr
        clear hr
        go_enter Tryd.func12, Tryd.ntmps12
        go_wp2_with fail
        generalize w.alloc (.cells #[.string n, .slice A L c] 26) = W0 at T hB0 ⊢
        have m0 := T.c0
        have m1 := T.c1
        go_wp2_with fail
        refine (validPY n _).mono ?_
        rintro e w1 ⟨rfl, hb⟩
        rw [hs]
        have HT := Lib.hid (PB.keep T hb)
        have HB := Lib.hid (chainY hB0 hb (Nat.le_refl _))
        clear hb T hB0 m0 m1
        have m0 := HT.out.c0
        have m1 := HT.out.c1
        go_wp2_with fail
        refine (CF.out _ HB.out).mono ?_
        rintro e w2 ⟨rfl, hb⟩
        go_upto_region 4 with fail
        have HT2 : Hid (PB (w2.alloc (.cells #[.string ⟨#[]⟩, .slice none 0 0] 26)) w.heap.size (.string n) (.slice A L c)) := PB.keep (PB.keep HT.out hb) (Below.alloc (Below.refl _ _) (Nat.le_refl _) _)
        have HB2 : Hid (Below w.heap.size w (w2.alloc (.cells #[.string ⟨#[]⟩, .slice none 0 0] 26))) := chainY (chainY HB.out hb (Nat.le_refl _)) (Below.alloc (Below.refl _ _) (Nat.le_refl _) _) (Nat.le_refl _)
        clear hb m0 m1 HT HB
        generalize w2.alloc (.cells #[.string ⟨#[]⟩, .slice none 0 0] 26) = X2 at HT2 HB2 ⊢
        have m0 := HT2.out.c0
        have m1 := HT2.out.c1
        have HR0 : Hid (ChkW w X2 w.heap.size n (.slice A L c) l q 0 r) := ⟨H0.out, HB2.out, HT2.out⟩
        clear H0 HT2
        go_wp2_with fail
        clear m0 m1
        go_loopw [29] (fun v wr => ∃ (i : Nat), i ≤ L ∧ v = .int .i64 i ∧ Hid (ChkW w wr w.heap.size n (.slice A L c) l q i r)) (fun v _ => L - (intOf v).toNat)
        case atStart => exact ⟨0, Nat.zero_le _, rfl, HR0⟩
        case round =>
          obtain ⟨i, hi, rfl, hE⟩ := hrel
          obtain ⟨wo, rfl⟩ : ∃ wo : World, wo = wr := ⟨_, rfl⟩
          obtain ⟨hF, hB, hG⟩ := hE.out
          clear hE HR0 HB2
          have HF := Lib.hid hF
          have HG := Lib.hid hG
          have HBo := Lib.hid hB
          clear hF hG hB
          by_cases hiL : i < L
          · have hil : i < q.length := by rw [HL.out]; exact hiL
            obtain ⟨b, o, rfl, hbw, hcell⟩ := HA.out (by omega)
            obtain ⟨k0, k1⟩ := hcell i hil
            have step := chkL_at (l := l) hil
            rw [HF.out] at step
            have l0 := (HBo.out.cell (p := ⟨b, o + i * 2, none⟩) hbw).trans k0
            have l1 := (HBo.out.cell (p := ⟨b, o + i * 2 + 1, none⟩) hbw).trans k1
            have CC := Lib.hid (fun X hX => CK.out X i q[i].1 q[i].2 (by omega) hX)
            clear k0 k1 hcell HF
            obtain ⟨e, he⟩ : ∃ e, chkImp l (q.take i) q[i] = e := ⟨_, rfl⟩
            rw [he] at step
            have CC2 : Hid (∀ X, Below w.heap.size w X → Calls Tryd.prog 18 #[v, .slice (some ⟨b, o, none⟩) i c, .agg #[.string q[i].1, .string q[i].2]] X (RetY X (.int .i64 e))) := fun X hX => by rw [← he]; exact CC.out X hX
            clear CC he
            generalize q[i].1 = q1 at l0 CC2
            generalize q[i].2 = q2 at l1 CC2
            have STP := Lib.hid step
            clear step
            go_upto_region 11 with fail
            have HN : Hid (SB (wo.alloc (.cells #[.string q1, .string q2] 29)) wo.heap.size (.string q1) (.string q2)) := SB.new wo _ _
            have HT3 : Hid (PB (wo.alloc (.cells #[.string q1, .string q2] 29)) w.heap.size (.string n) (.slice (some ⟨b, o, none⟩) L c)) := PB.keep HG.out (Below.alloc (Below.refl _ _) (Nat.le_refl _) _)
            have HB3 : Hid (Below w.heap.size w (wo.alloc (.cells #[.string q1, .string q2] 29))) := chainY HBo.out (Below.alloc (Below.refl _ _) (Nat.le_refl _) _) (Nat.le_refl _)
            clear l0 l1 HG
            generalize wo.alloc (.cells #[.string q1, .string q2] 29) = X3 at HN HT3 HB3 ⊢
            have hX3 : Below X3.heap.size X3 X3.drew := (Below.refl _ _).drew
            have HCC : Hid (∀ X, Below X3.heap.size X3 X → X.cell? ⟨w.heap.size, 1, none⟩ = some (.slice (some ⟨b, o, none⟩) L c) ∧ X.cell? ⟨wo.heap.size, 0, none⟩ = some (.string q1) ∧ X.cell? ⟨wo.heap.size, 1, none⟩ = some (.string q2)) := fun X hX => ⟨(PB.keep HT3.out hX).c1, (SB.keep HN.out hX).c0, (SB.keep HN.out hX).c1⟩
            obtain ⟨m1, j0, j1⟩ := HCC.out X3 (Below.refl _ _)
            have hc1 : (0 : Int) ≤ (i : Int) := by omega
            have hc2 : (i : Int) ≤ (c : Int) := by omega
            go_region_held3 (fun W' => W'.cell? ⟨w.heap.size, 1, none⟩ = some (.slice (some ⟨b, o, none⟩) L c) ∧ W'.cell? ⟨wo.heap.size, 0, none⟩ = some (.string q1) ∧ W'.cell? ⟨wo.heap.size, 1, none⟩ = some (.string q2)) (go_keep)
              ((go_at_call 18; refine (CC2.out _ (chainY HB3.out ‹Below X3.heap.size X3 _› (Nat.le_refl _))).mono ?_; rintro e3 w3 ⟨rfl, hb3⟩; have hX4 := chainY ‹Below X3.heap.size X3 _› hb3 (Nat.le_refl _); obtain ⟨m1, j0, j1⟩ := HCC.out _ hX4; clear hb3))
            by_cases he0 : e = 0
            · subst he0
              have stp2 : r = chkL l (List.take (i + 1) q) (List.drop (i + 1) q) := by have := STP.out; rwa [if_pos rfl] at this
              have STP2 := Lib.hid stp2
              clear stp2 STP m1 j0 j1
              go_wp2_with fail
              go_roundw
              case rel => exact ⟨i + 1, by omega, by go_num, ⟨STP2.out.symm, chainY HB3.out ‹Below X3.heap.size X3 _› (Nat.le_refl _), PB.keep HT3.out ‹Below X3.heap.size X3 _›⟩⟩
              case measure => simp [intOf]; omega
            · have stp2 : r = e := by have := STP.out; rwa [if_neg he0] at this
              have STP2 := Lib.hid stp2
              clear stp2 STP m1 j0 j1
              go_wp2_with fail
              go_ret
              exact ⟨by rw [STP2.out]; rfl, chainY HB3.out ‹Below X3.heap.size X3 _› (Nat.le_refl _)⟩
          · have hiE : i = L := by omega
            have hr : Hid (r = 0) := by
              show _ = _
              rw [← HF.out, List.drop_eq_nil_of_le (by rw [HL.out]; omega)]
              rfl
            clear HF
            go_wp2_with fail
            go_ret
            exact ⟨by rw [hr.out]; rfl, HBo.out⟩
end Go.Proofs.YtcgchacokcnacaaDoor
