import Derived.Test.YtlmnjelideegnaaGreatDoorAl
import Derived.Test.YtlmnjelideegnaaGreatDoorG33
import Derived.Test.YtlmnjelideegnaaGreatDoorG24
import Derived.Test.YtlmnjelideegnaaGreatDoorG25
import Derived.Test.YtlmnjelideegnaaGreatDoorG37
import Derived.Deep.RegionHeld3
import Derived.Test.YtlmnjelideegnaaGreatDoorG30
import Derived.Test.YtlmnjelideegnaaGreatDoorG29
import Derived.Test.YtlmnjelideegnaaGreatDoorG28
import Derived.Test.YtlmnjelideegnaaGreatDoorG19
namespace Go.Proofs.YtlmnjelideegnaaGreatDoor
open Go Go.RowKit
set_option linter.unusedVariables false
set_option maxHeartbeats 32000000
set_option maxRecDepth 100000
/-- A raw tree in its box. -/
def RwB (W : World) (g : Nat) (a b c d : Value) : Prop := W.heap[g]? = some (.cells #[a, b, c, d] 35 (0, 0))
theorem tkO_len (kp : List UInt8 → List UInt8 → List UInt8) : ∀ (m : Nat) (o : Ob), o.nodes ≤ m → (tkO kp o).length ≤ 3 * o.nodes ∧ (tkT kp o).length ≤ 3 * o.nodes := by
 intro m
 induction m with
 | zero => intro o h; have := o.nodes_pos; omega
 | succ m ih =>
  intro o hm
  cases o with
  | num q => exact ⟨by simp [tkO, Ob.nodes], by simp [tkT, Ob.nodes]⟩
  | str s => exact ⟨by simp [tkO, Ob.nodes], by simp [tkT, Ob.nodes]⟩
  | sym x y =>
   refine ⟨by simp [tkO, Ob.nodes], ?_⟩
   unfold tkT
   split <;> simp [Ob.nodes]
  | cons a d =>
   have hn : (Ob.cons a d).nodes = 1 + a.nodes + d.nodes := rfl
   obtain ⟨a1, _⟩ := ih a (by omega)
   obtain ⟨_, d2⟩ := ih d (by omega)
   have e2 : tkT kp (.cons a d) = tkO kp a ++ tkT kp d := rfl
   refine ⟨?_, by rw [e2, List.length_append]; omega⟩
   have main : (tkO kp (.cons a d)).length ≤ 1 + (tkO kp a).length + (tkT kp d).length ∨ ∃ x e, d = .cons x e ∧ (tkO kp (.cons a d)).length = 1 + (tkO kp x).length := by
    cases d with
    | cons x e =>
     by_cases hq : a = quoteO ∧ e = .nil
     · have e1 : tkO kp (.cons a (.cons x e)) = (4, [], [], []) :: tkO kp x := by
        have : tkO kp (.cons a (.cons x e)) = if a = quoteO ∧ e = .nil then (4, [], [], []) :: tkO kp x else (1, [], [], []) :: (tkO kp a ++ tkT kp (.cons x e)) := by rw [tkO]
        rw [this, if_pos hq]
       exact .inr ⟨x, e, rfl, by rw [e1, List.length_cons]; omega⟩
     · have e1 : tkO kp (.cons a (.cons x e)) = (1, [], [], []) :: (tkO kp a ++ tkT kp (.cons x e)) := by
        have : tkO kp (.cons a (.cons x e)) = if a = quoteO ∧ e = .nil then (4, [], [], []) :: tkO kp x else (1, [], [], []) :: (tkO kp a ++ tkT kp (.cons x e)) := by rw [tkO]
        rw [this, if_neg hq]
       exact .inl (by rw [e1, List.length_cons, List.length_append]; omega)
    | num q => exact .inl (by rw [tkO, List.length_cons, List.length_append]; omega)
    | str s => exact .inl (by rw [tkO, List.length_cons, List.length_append]; omega)
    | sym x y => exact .inl (by rw [tkO, List.length_cons, List.length_append]; omega)
   rcases main with h | ⟨x, e, rfl, h⟩
   · omega
   · have hd : (Ob.cons x e).nodes = 1 + x.nodes + e.nodes := rfl
     obtain ⟨x1, _⟩ := ih x (by omega)
     omega
/-- One answers the object, where its text is no longer than a source may be. -/
theorem one_back (l : List Sy.Pg) (cur : ByteArray) (o : Ob) (hp : PrOkU l o) (hn : o.nodes ≤ 201) (hz : (prO (nmU l cur) o).length ≤ 6000) : oneS l cur (BA (prO (nmU l cur) o)) = .ok o ∧ SmS (BA (prO (nmU l cur) o)) := by
 have hsz : (BA (prO (nmU l cur) o)).size ≤ 6000 := by rw [BA_size]; exact hz
 obtain ⟨ts, p, h1, h2, h3⟩ := print_read l cur o (BA (prO (nmU l cur) o)).size hp hn
 have hs : scanS (BA (prO (nmU l cur) o)) = .ok ts := by rw [scanS_small hsz, LA_BA]; exact h1
 have hl := (tkO_len (kpS l cur) o.nodes o (Nat.le_refl _)).1
 refine ⟨?_, ⟨by omega, fun ts' h => ?_⟩⟩
 · unfold oneS readS readL
   rw [hs]
   have e : (numK : Tk → Rat) = numT' := rfl
   rw [e]
   simp only
   rw [h2]
 · rw [hs] at h
   injection h with h
   subst h
   omega
/-- What One answers on the text of a symbol. -/
theorem one_name (l : List Sy.Pg) (cur p m : ByteArray) (h : (nameV l cur p m).2 = 0) : oneS l cur (BA (nmU l cur (LA p) (LA m))) = .ok (.sym (LA p) (LA m)) ∧ SmS (BA (nmU l cur (LA p) (LA m))) ∧ (nameV l cur p m).1 = BA (nmU l cur (LA p) (LA m)) := by
 unfold nameV at h ⊢
 by_cases h1 : Sy.symOk p m = true
 · rw [if_pos h1] at h ⊢
   by_cases h2 : ((Sy.findM l cur).isSome && Sy.homeM l (p, m)) = true
   · rw [if_pos h2]
     rw [Bool.and_eq_true] at h2
     have hp : PrOkU l (.sym (LA p) (LA m)) := by
      refine ⟨?_, ?_⟩
      · rw [BA_LA, BA_LA]; exact h1
      · rw [BA_LA, BA_LA]; exact h2.2
     have hok : Sy.pkgOk p = true ∧ Sy.nameOk m = true := by unfold Sy.symOk at h1; rw [Bool.and_eq_true] at h1; exact h1
     have hzn : m.size ≤ 40 := (nameOk_facts (n := LA m) (by rw [BA_LA]; exact hok.2)).2
     have hzp : p.size ≤ 40 := (pkgOk_facts (p := LA p) (by rw [BA_LA]; exact hok.1)).2.2
     have hl := nmU_len l cur (LA p) (LA m)
     have e1 : (LA p).length = p.size := by have := BA_size (LA p); rw [BA_LA] at this; omega
     have e2 : (LA m).length = m.size := by have := BA_size (LA m); rw [BA_LA] at this; omega
     obtain ⟨k1, k2⟩ := one_back l cur (.sym (LA p) (LA m)) hp (show 1 ≤ 201 by decide) (by show (nmU l cur (LA p) (LA m)).length ≤ 6000; omega)
     exact ⟨k1, k2, rfl⟩
   · rw [if_neg h2] at h
     cases h
 · rw [if_neg h1] at h
   cases h
theorem SB.setU {W : World} {g : Nat} {x y : Value} (h : Sy.SB W g x y) (u : Value) : Sy.SB (W.setCell ⟨g, 0, none⟩ u) g u y := by
 unfold Sy.SB at h ⊢
 simp [World.setCell, Array.getElem?_modify, h]
theorem namesTripW (m : ByteArray) (n : Int) (other : Bool) (w : World) (hT : EscT w) (hn : -9223372036854775808 ≤ n) (hn' : n ≤ 9223372036854775807) :
 Calls Tryz.prog 8 #[.string m, .int .i64 n, .bool other] w (RetB w true) := by
 have HT := qh9 hT
 clear hT
 go_enter Tryz.func8, Tryz.ntmps8
 go_wp2_with fail
 with_reducible refine (first6 w HT.out).mono ?_
 rintro e w1 ⟨rfl, hb⟩
 have HB := qh9 (chain2 hb (below_al w1 (.cells #[.string ⟨#[117, 115, 101, 114]⟩, .string m] 23)) (Nat.le_refl _))
 have BS := qh9 (Sy.SB.new w1 (.string ⟨#[117, 115, 101, 114]⟩) (.string m))
 have hb1 := hb.size
 clear hb
 go_upto_region 4 with fail
 generalize w1.alloc (.cells #[.string ⟨#[117, 115, 101, 114]⟩, .string m] 23) = X0 at HB BS ⊢
 have HSZ := HB.out.size
 have hgs : w.heap.size ≤ w1.heap.size := hb1
 generalize w1.heap.size = gs at BS hgs ⊢
 cases other with
 | false =>
  go_upto_region 6 with fail
  generalize X0 = X at BS HB ⊢
  clear HSZ
  have CP : Hid (∀ X' y, Below X.heap.size X X' → Sy.PgV X' userM y → Calls Tryz.prog 12 #[y, .string (whereB (n % 3).toNat), .agg #[.string ⟨#[117, 115, 101, 114]⟩, .string m]] X' (RetTE X' (nameV userM (whereB (n % 3).toNat) ⟨#[117, 115, 101, 114]⟩ m).1 (nameV userM (whereB (n % 3).toNat) ⟨#[117, 115, 101, 114]⟩ m).2)) := fun X' y hX hy => nameUP userM y (whereB (n % 3).toNat) ⟨#[117, 115, 101, 114]⟩ m X' hy (by decide) (by decide) (HT.out.keep (HB.out.trans (hX.mono HB.out.size)))
  have CO : Hid ((nameV userM (whereB (n % 3).toNat) ⟨#[117, 115, 101, 114]⟩ m).2 = 0 → ∀ X' y, Sy.PgV X' userM y → Calls Tryz.prog 22 #[y, .string (whereB (n % 3).toNat), .string (nameV userM (whereB (n % 3).toNat) ⟨#[117, 115, 101, 114]⟩ m).1] X' (OutOn X' (.ok (.sym (LA ⟨#[117, 115, 101, 114]⟩) (LA m))))) := fun h X' y hy => by
   obtain ⟨h1, h2, e⟩ := one_name userM (whereB (n % 3).toNat) ⟨#[117, 115, 101, 114]⟩ m h
   rw [e]
   have := onePr (BA (nmU userM (whereB (n % 3).toNat) (LA ⟨#[117, 115, 101, 114]⟩) (LA m))) (whereB (n % 3).toNat) userM y X' hy userB5 h2
   rwa [h1] at this
  obtain ⟨V, hV⟩ : ∃ V, (nameV userM (whereB (n % 3).toNat) ⟨#[117, 115, 101, 114]⟩ m) = V := ⟨_, rfl⟩
  rw [hV] at CP CO
  obtain ⟨Vs, Vn⟩ := V
  clear hV
  have D0 := qh9 (BS.out.keep ((Below.refl X.heap.size X).drew))
  have p0 := BS.out.c0
  have p1 := Sy.SB.c1 BS.out
  have p2 := D0.out.c0
  have p3 := Sy.SB.c1 D0.out
  go_region_held3 (fun W' => W'.cell? ⟨gs, 0, none⟩ = some (.string ⟨#[117, 115, 101, 114]⟩) ∧ W'.cell? ⟨gs, 1, none⟩ = some (.string m)) (go_keep) ((first | (go_at_call 13; refine (packages6 _).mono ?_; rintro e xa ⟨y, rfl, hy, hb⟩; have HY := qh9 hy; have HR := qh9 ((Below.drew (Below.refl X.heap.size X)).trans hb); have q0 := (BS.out.keep HR.out).c0; have q1 := Sy.SB.c1 (BS.out.keep HR.out); clear hy hb) | (go_at_call 14; refine (where6 n _ hn hn').mono ?_; rintro e xc ⟨rfl, hb⟩; have HZ := qh9 (HY.out.keep hb); have HQ := qc9 HR hb; have r0 := (BS.out.keep HQ.out).c0; have r1 := Sy.SB.c1 (BS.out.keep HQ.out); clear hb) | (go_at_call 12; refine (CP.out xc y HQ.out HZ.out).mono ?_; rintro e W0 ⟨rfl, hb⟩; have HG := qc9 HQ hb; have t0 := (BS.out.keep HG.out).c0; have t1 := Sy.SB.c1 (BS.out.keep HG.out); clear hb)))
  replace BS := qh9 (BS.out.keep HG.out)
  replace HB := qh9 (chain2 HB.out HG.out (Nat.le_refl _))
  clear p0 p1 p2 p3 CP
  by_cases hv0 : Vn = 0
  · subst hv0
    have C1 := qh9 (CO.out rfl)
    clear CO
    go_wp2_with fail
    with_reducible refine (packages6 _).mono ?_
    rintro e w4 ⟨y1, rfl, hy, hb⟩
    replace BS := qh9 (BS.out.keep hb)
    replace HB := qc9 HB hb
    have HY1 := qh9 hy
    clear hb hy
    go_wp2_with fail
    with_reducible refine (where6 n _ hn hn').mono ?_
    rintro e w5 ⟨rfl, hb⟩
    replace BS := qh9 (BS.out.keep hb)
    replace HB := qc9 HB hb
    replace HY1 := qh9 (HY1.out.keep hb)
    clear hb
    go_wp2_with fail
    with_reducible refine (C1.out _ y1 HY1.out).mono ?_
    rintro e w6 ⟨hb, q, rfl, hq⟩
    replace BS := qh9 (BS.out.keep hb)
    replace HB := qc9 HB hb
    have HQ1 : Hid (Hd w6 (.sym (LA ⟨#[117, 115, 101, 114]⟩) (LA m)) q) := hq.more (fun b h => h.2)
    clear hb hq C1 HY1
    have A2 : Hid (Below w6.heap.size w6 ((w6.alloc (.cells #[.int .i64 0, .string ⟨#[]⟩, .string ⟨#[]⟩, .string ⟨#[]⟩, .string ⟨#[]⟩, .string ⟨#[]⟩, .slice none 0 0] 39)).alloc (.cells #[.int .i64 0, .int .i64 0] 46))) := (below_al w6 _).trans ((below_al _ _).mono (by simp))
    have B2 : Hid (Bx ((w6.alloc (.cells #[.int .i64 0, .string ⟨#[]⟩, .string ⟨#[]⟩, .string ⟨#[]⟩, .string ⟨#[]⟩, .string ⟨#[]⟩, .slice none 0 0] 39)).alloc (.cells #[.int .i64 0, .int .i64 0] 46)) w6.heap.size #[.int .i64 0, .string ⟨#[]⟩, .string ⟨#[]⟩, .string ⟨#[]⟩, .string ⟨#[]⟩, .string ⟨#[]⟩, .slice none 0 0]) := Bx.keep (aO_new w6 _) (below_al _ _)
    have E2 : Hid (EB ((w6.alloc (.cells #[.int .i64 0, .string ⟨#[]⟩, .string ⟨#[]⟩, .string ⟨#[]⟩, .string ⟨#[]⟩, .string ⟨#[]⟩, .slice none 0 0] 39)).alloc (.cells #[.int .i64 0, .int .i64 0] 46)) (w6.heap.size + 1) (.int .i64 0) (.int .i64 0)) := heap_alloc2_new w6 _ _
    have E3 : Hid (EB (((w6.alloc (.cells #[.int .i64 0, .string ⟨#[]⟩, .string ⟨#[]⟩, .string ⟨#[]⟩, .string ⟨#[]⟩, .string ⟨#[]⟩, .slice none 0 0] 39)).alloc (.cells #[.int .i64 0, .int .i64 0] 46)).setRow w6.heap.size (cellsO (.sym (LA ⟨#[117, 115, 101, 114]⟩) (LA m)) q).toArray) (w6.heap.size + 1) (.int .i64 0) (.int .i64 0)) := E2.out.row (by omega) _
    have B4 : Hid (Bx ((((w6.alloc (.cells #[.int .i64 0, .string ⟨#[]⟩, .string ⟨#[]⟩, .string ⟨#[]⟩, .string ⟨#[]⟩, .string ⟨#[]⟩, .slice none 0 0] 39)).alloc (.cells #[.int .i64 0, .int .i64 0] 46)).setRow w6.heap.size (cellsO (.sym (LA ⟨#[117, 115, 101, 114]⟩) (LA m)) q).toArray).setRow (w6.heap.size + 1) #[.int .i64 0, .int .i64 0]) w6.heap.size (cellsO (.sym (LA ⟨#[117, 115, 101, 114]⟩) (LA m)) q).toArray) := (setRow_other _ _ _ _ (by omega)).trans (setRow_heap _ _ _ _ _ _ B2.out)
    have E4 : Hid (EB ((((w6.alloc (.cells #[.int .i64 0, .string ⟨#[]⟩, .string ⟨#[]⟩, .string ⟨#[]⟩, .string ⟨#[]⟩, .string ⟨#[]⟩, .slice none 0 0] 39)).alloc (.cells #[.int .i64 0, .int .i64 0] 46)).setRow w6.heap.size (cellsO (.sym (LA ⟨#[117, 115, 101, 114]⟩) (LA m)) q).toArray).setRow (w6.heap.size + 1) #[.int .i64 0, .int .i64 0]) (w6.heap.size + 1) (.int .i64 0) (.int .i64 0)) := setRow_heap _ _ _ _ _ _ E3.out
    have hb : Below w6.heap.size w6 ((((w6.alloc (.cells #[.int .i64 0, .string ⟨#[]⟩, .string ⟨#[]⟩, .string ⟨#[]⟩, .string ⟨#[]⟩, .string ⟨#[]⟩, .slice none 0 0] 39)).alloc (.cells #[.int .i64 0, .int .i64 0] 46)).setRow w6.heap.size (cellsO (.sym (LA ⟨#[117, 115, 101, 114]⟩) (LA m)) q).toArray).setRow (w6.heap.size + 1) #[.int .i64 0, .int .i64 0]) := below_setRow (below_setRowO A2.out (Nat.le_refl _) _) (by omega) _
    replace BS := qh9 (BS.out.keep hb)
    replace HB := qc9 HB hb
    have HQ2 := qh9 (HQ1.out.below hb)
    clear hb A2
    go_upto_region 10 with (first | ((with_reducible refine storeB (w1 := w6) (g := w6.heap.size) (b := .sym (LA ⟨#[117, 115, 101, 114]⟩) (LA m)) (p := q) (.tmp 10) (.tmp 34) ?_ ?_ ?_ ?_ HQ1.out B2.out ?_); rfl; rfl; rfl; rfl) | ((with_reducible refine EB.store (.tmp 11) (.tmp 35) ?_ ?_ (w6.heap.size + 1) 0 0 (.int .i64 0) (.int .i64 0) ?_ ?_ E3.out ?_); rfl; rfl; rfl; rfl))
    clear B2 E2 E3 HQ1
    generalize (((w6.alloc (.cells #[.int .i64 0, .string ⟨#[]⟩, .string ⟨#[]⟩, .string ⟨#[]⟩, .string ⟨#[]⟩, .string ⟨#[]⟩, .slice none 0 0] 39)).alloc (.cells #[.int .i64 0, .int .i64 0] 46)).setRow w6.heap.size (cellsO (.sym (LA ⟨#[117, 115, 101, 114]⟩) (LA m)) q).toArray).setRow (w6.heap.size + 1) #[.int .i64 0, .int .i64 0] = X2 at B4 E4 HQ2 BS HB ⊢
    have hq2 : q = .slice none 0 0 := HQ2.out.flat rfl
    subst hq2
    generalize w6.heap.size = g6 at B4 E4 ⊢
    have B5 : Hid (Bx X2 g6 #[.int .i64 2, .string ⟨#[]⟩, .string ⟨#[]⟩, .string (BA (LA ⟨#[117, 115, 101, 114]⟩)), .string (BA (LA m)), .string ⟨#[]⟩, .slice none 0 0]) := B4.out
    have KS : Hid (∀ Y, Calls Tryz.prog 26 #[.agg #[.string ⟨#[117, 115, 101, 114]⟩, .string m]] Y (fun e w' => e = .returned (.agg #[.int .i64 2, .string ⟨#[]⟩, .string ⟨#[]⟩, .string (BA (LA ⟨#[117, 115, 101, 114]⟩)), .string (BA (LA m)), .string ⟨#[]⟩, .slice none 0 0]) ∧ Below Y.heap.size Y w')) := fun Y =>
     (symO ⟨#[117, 115, 101, 114]⟩ m Y NoB).mono fun e w' ⟨p, he, hp, hb⟩ => by
       have hpe : p = .slice none 0 0 := hp
       subst hpe
       exact ⟨he, hb⟩
    have KE : Hid (∀ Y, Calls Tryz.prog 23 #[.agg #[.int .i64 2, .string ⟨#[]⟩, .string ⟨#[]⟩, .string (BA (LA ⟨#[117, 115, 101, 114]⟩)), .string (BA (LA m)), .string ⟨#[]⟩, .slice none 0 0], .agg #[.int .i64 2, .string ⟨#[]⟩, .string ⟨#[]⟩, .string (BA (LA ⟨#[117, 115, 101, 114]⟩)), .string (BA (LA m)), .string ⟨#[]⟩, .slice none 0 0]] Y (RetB Y true)) := fun Y => by
     have h0 : Hd Y (.sym (LA ⟨#[117, 115, 101, 114]⟩) (LA m)) (.slice none 0 0) := rfl
     have := equalO (.sym (LA ⟨#[117, 115, 101, 114]⟩) (LA m)) (.sym (LA ⟨#[117, 115, 101, 114]⟩) (LA m)) _ _ Y (Has Y) (In.has Y) h0 h0
     rwa [decide_eq_true rfl] at this
    have D2 := qh9 ((Below.refl X2.heap.size X2).drew)
    have e0 := E4.out.c0
    have e1 := (E4.out.keep D2.out).c0
    obtain ⟨m0, m1, m2, m3, m4, m5, m6⟩ := Bx.c B5.out
    obtain ⟨n0, n1, n2, n3, n4, n5, n6⟩ := Bx.c (B5.out.keep D2.out)
    have s0 := BS.out.c0
    have s1 := Sy.SB.c1 BS.out
    have s2 := (BS.out.keep D2.out).c0
    have s3 := Sy.SB.c1 (BS.out.keep D2.out)
    go_wp2_with fail
    go_region_with (first | (go_at_call 26; (with_reducible refine (KS.out _).mono ?_); rintro e w7 ⟨rfl, hb7⟩; have Z7 := qh9 (D2.out.trans hb7); obtain ⟨k0, k1, k2, k3, k4, k5, k6⟩ := Bx.c (B5.out.keep Z7.out); clear hb7) | (go_at_call 23; (with_reducible refine (KE.out _).mono ?_); rintro e w8 ⟨rfl, hb8⟩; have Z8 := qc9 Z7 hb8))
    all_goals (have HF := qh9 (chain2 HB.out Z8.out (Nat.le_refl _)); go_wp2; go_ret; exact ⟨rfl, HF.out⟩)
  · have hv1 : (Vn == 0) = false := by rw [beq_eq_false_iff_ne]; exact hv0
    go_wp2
    go_ret
    exact ⟨rfl, HB.out⟩
 | true =>
  have u0 := BS.out.c0
  have u1 := SB.fr0 BS.out
  have BS2 := qh9 (SB.setU BS.out (.string ⟨#[108, 105, 115, 112]⟩))
  have HB2 := qh9 (Below.setCell (p := ⟨gs, 0, none⟩) HB.out hgs (.string ⟨#[108, 105, 115, 112]⟩))
  clear BS HB
  go_upto_region 6 with fail
  generalize X0.setCell ⟨gs, 0, none⟩ (.string ⟨#[108, 105, 115, 112]⟩) = X at BS2 HB2 ⊢
  have BS := qh9 BS2.out
  have HB := qh9 HB2.out
  clear BS2 HB2 u0 u1 HSZ
  have CP : Hid (∀ X' y, Below X.heap.size X X' → Sy.PgV X' userM y → Calls Tryz.prog 12 #[y, .string (whereB (n % 3).toNat), .agg #[.string ⟨#[108, 105, 115, 112]⟩, .string m]] X' (RetTE X' (nameV userM (whereB (n % 3).toNat) ⟨#[108, 105, 115, 112]⟩ m).1 (nameV userM (whereB (n % 3).toNat) ⟨#[108, 105, 115, 112]⟩ m).2)) := fun X' y hX hy => nameUP userM y (whereB (n % 3).toNat) ⟨#[108, 105, 115, 112]⟩ m X' hy (by decide) (by decide) (HT.out.keep (HB.out.trans (hX.mono HB.out.size)))
  have CO : Hid ((nameV userM (whereB (n % 3).toNat) ⟨#[108, 105, 115, 112]⟩ m).2 = 0 → ∀ X' y, Sy.PgV X' userM y → Calls Tryz.prog 22 #[y, .string (whereB (n % 3).toNat), .string (nameV userM (whereB (n % 3).toNat) ⟨#[108, 105, 115, 112]⟩ m).1] X' (OutOn X' (.ok (.sym (LA ⟨#[108, 105, 115, 112]⟩) (LA m))))) := fun h X' y hy => by
   obtain ⟨h1, h2, e⟩ := one_name userM (whereB (n % 3).toNat) ⟨#[108, 105, 115, 112]⟩ m h
   rw [e]
   have := onePr (BA (nmU userM (whereB (n % 3).toNat) (LA ⟨#[108, 105, 115, 112]⟩) (LA m))) (whereB (n % 3).toNat) userM y X' hy userB5 h2
   rwa [h1] at this
  obtain ⟨V, hV⟩ : ∃ V, (nameV userM (whereB (n % 3).toNat) ⟨#[108, 105, 115, 112]⟩ m) = V := ⟨_, rfl⟩
  rw [hV] at CP CO
  obtain ⟨Vs, Vn⟩ := V
  clear hV
  have D0 := qh9 (BS.out.keep ((Below.refl X.heap.size X).drew))
  have p0 := BS.out.c0
  have p1 := Sy.SB.c1 BS.out
  have p2 := D0.out.c0
  have p3 := Sy.SB.c1 D0.out
  go_region_held3 (fun W' => W'.cell? ⟨gs, 0, none⟩ = some (.string ⟨#[108, 105, 115, 112]⟩) ∧ W'.cell? ⟨gs, 1, none⟩ = some (.string m)) (go_keep) ((first | (go_at_call 13; refine (packages6 _).mono ?_; rintro e xa ⟨y, rfl, hy, hb⟩; have HY := qh9 hy; have HR := qh9 ((Below.drew (Below.refl X.heap.size X)).trans hb); have q0 := (BS.out.keep HR.out).c0; have q1 := Sy.SB.c1 (BS.out.keep HR.out); clear hy hb) | (go_at_call 14; refine (where6 n _ hn hn').mono ?_; rintro e xc ⟨rfl, hb⟩; have HZ := qh9 (HY.out.keep hb); have HQ := qc9 HR hb; have r0 := (BS.out.keep HQ.out).c0; have r1 := Sy.SB.c1 (BS.out.keep HQ.out); clear hb) | (go_at_call 12; refine (CP.out xc y HQ.out HZ.out).mono ?_; rintro e W0 ⟨rfl, hb⟩; have HG := qc9 HQ hb; have t0 := (BS.out.keep HG.out).c0; have t1 := Sy.SB.c1 (BS.out.keep HG.out); clear hb)))
  replace BS := qh9 (BS.out.keep HG.out)
  replace HB := qh9 (chain2 HB.out HG.out (Nat.le_refl _))
  clear p0 p1 p2 p3 CP
  by_cases hv0 : Vn = 0
  · subst hv0
    have C1 := qh9 (CO.out rfl)
    clear CO
    go_wp2_with fail
    with_reducible refine (packages6 _).mono ?_
    rintro e w4 ⟨y1, rfl, hy, hb⟩
    replace BS := qh9 (BS.out.keep hb)
    replace HB := qc9 HB hb
    have HY1 := qh9 hy
    clear hb hy
    go_wp2_with fail
    with_reducible refine (where6 n _ hn hn').mono ?_
    rintro e w5 ⟨rfl, hb⟩
    replace BS := qh9 (BS.out.keep hb)
    replace HB := qc9 HB hb
    replace HY1 := qh9 (HY1.out.keep hb)
    clear hb
    go_wp2_with fail
    with_reducible refine (C1.out _ y1 HY1.out).mono ?_
    rintro e w6 ⟨hb, q, rfl, hq⟩
    replace BS := qh9 (BS.out.keep hb)
    replace HB := qc9 HB hb
    have HQ1 : Hid (Hd w6 (.sym (LA ⟨#[108, 105, 115, 112]⟩) (LA m)) q) := hq.more (fun b h => h.2)
    clear hb hq C1 HY1
    have A2 : Hid (Below w6.heap.size w6 ((w6.alloc (.cells #[.int .i64 0, .string ⟨#[]⟩, .string ⟨#[]⟩, .string ⟨#[]⟩, .string ⟨#[]⟩, .string ⟨#[]⟩, .slice none 0 0] 39)).alloc (.cells #[.int .i64 0, .int .i64 0] 46))) := (below_al w6 _).trans ((below_al _ _).mono (by simp))
    have B2 : Hid (Bx ((w6.alloc (.cells #[.int .i64 0, .string ⟨#[]⟩, .string ⟨#[]⟩, .string ⟨#[]⟩, .string ⟨#[]⟩, .string ⟨#[]⟩, .slice none 0 0] 39)).alloc (.cells #[.int .i64 0, .int .i64 0] 46)) w6.heap.size #[.int .i64 0, .string ⟨#[]⟩, .string ⟨#[]⟩, .string ⟨#[]⟩, .string ⟨#[]⟩, .string ⟨#[]⟩, .slice none 0 0]) := Bx.keep (aO_new w6 _) (below_al _ _)
    have E2 : Hid (EB ((w6.alloc (.cells #[.int .i64 0, .string ⟨#[]⟩, .string ⟨#[]⟩, .string ⟨#[]⟩, .string ⟨#[]⟩, .string ⟨#[]⟩, .slice none 0 0] 39)).alloc (.cells #[.int .i64 0, .int .i64 0] 46)) (w6.heap.size + 1) (.int .i64 0) (.int .i64 0)) := heap_alloc2_new w6 _ _
    have E3 : Hid (EB (((w6.alloc (.cells #[.int .i64 0, .string ⟨#[]⟩, .string ⟨#[]⟩, .string ⟨#[]⟩, .string ⟨#[]⟩, .string ⟨#[]⟩, .slice none 0 0] 39)).alloc (.cells #[.int .i64 0, .int .i64 0] 46)).setRow w6.heap.size (cellsO (.sym (LA ⟨#[108, 105, 115, 112]⟩) (LA m)) q).toArray) (w6.heap.size + 1) (.int .i64 0) (.int .i64 0)) := E2.out.row (by omega) _
    have B4 : Hid (Bx ((((w6.alloc (.cells #[.int .i64 0, .string ⟨#[]⟩, .string ⟨#[]⟩, .string ⟨#[]⟩, .string ⟨#[]⟩, .string ⟨#[]⟩, .slice none 0 0] 39)).alloc (.cells #[.int .i64 0, .int .i64 0] 46)).setRow w6.heap.size (cellsO (.sym (LA ⟨#[108, 105, 115, 112]⟩) (LA m)) q).toArray).setRow (w6.heap.size + 1) #[.int .i64 0, .int .i64 0]) w6.heap.size (cellsO (.sym (LA ⟨#[108, 105, 115, 112]⟩) (LA m)) q).toArray) := (setRow_other _ _ _ _ (by omega)).trans (setRow_heap _ _ _ _ _ _ B2.out)
    have E4 : Hid (EB ((((w6.alloc (.cells #[.int .i64 0, .string ⟨#[]⟩, .string ⟨#[]⟩, .string ⟨#[]⟩, .string ⟨#[]⟩, .string ⟨#[]⟩, .slice none 0 0] 39)).alloc (.cells #[.int .i64 0, .int .i64 0] 46)).setRow w6.heap.size (cellsO (.sym (LA ⟨#[108, 105, 115, 112]⟩) (LA m)) q).toArray).setRow (w6.heap.size + 1) #[.int .i64 0, .int .i64 0]) (w6.heap.size + 1) (.int .i64 0) (.int .i64 0)) := setRow_heap _ _ _ _ _ _ E3.out
    have hb : Below w6.heap.size w6 ((((w6.alloc (.cells #[.int .i64 0, .string ⟨#[]⟩, .string ⟨#[]⟩, .string ⟨#[]⟩, .string ⟨#[]⟩, .string ⟨#[]⟩, .slice none 0 0] 39)).alloc (.cells #[.int .i64 0, .int .i64 0] 46)).setRow w6.heap.size (cellsO (.sym (LA ⟨#[108, 105, 115, 112]⟩) (LA m)) q).toArray).setRow (w6.heap.size + 1) #[.int .i64 0, .int .i64 0]) := below_setRow (below_setRowO A2.out (Nat.le_refl _) _) (by omega) _
    replace BS := qh9 (BS.out.keep hb)
    replace HB := qc9 HB hb
    have HQ2 := qh9 (HQ1.out.below hb)
    clear hb A2
    go_upto_region 10 with (first | ((with_reducible refine storeB (w1 := w6) (g := w6.heap.size) (b := .sym (LA ⟨#[108, 105, 115, 112]⟩) (LA m)) (p := q) (.tmp 10) (.tmp 34) ?_ ?_ ?_ ?_ HQ1.out B2.out ?_); rfl; rfl; rfl; rfl) | ((with_reducible refine EB.store (.tmp 11) (.tmp 35) ?_ ?_ (w6.heap.size + 1) 0 0 (.int .i64 0) (.int .i64 0) ?_ ?_ E3.out ?_); rfl; rfl; rfl; rfl))
    clear B2 E2 E3 HQ1
    generalize (((w6.alloc (.cells #[.int .i64 0, .string ⟨#[]⟩, .string ⟨#[]⟩, .string ⟨#[]⟩, .string ⟨#[]⟩, .string ⟨#[]⟩, .slice none 0 0] 39)).alloc (.cells #[.int .i64 0, .int .i64 0] 46)).setRow w6.heap.size (cellsO (.sym (LA ⟨#[108, 105, 115, 112]⟩) (LA m)) q).toArray).setRow (w6.heap.size + 1) #[.int .i64 0, .int .i64 0] = X2 at B4 E4 HQ2 BS HB ⊢
    have hq2 : q = .slice none 0 0 := HQ2.out.flat rfl
    subst hq2
    generalize w6.heap.size = g6 at B4 E4 ⊢
    have B5 : Hid (Bx X2 g6 #[.int .i64 2, .string ⟨#[]⟩, .string ⟨#[]⟩, .string (BA (LA ⟨#[108, 105, 115, 112]⟩)), .string (BA (LA m)), .string ⟨#[]⟩, .slice none 0 0]) := B4.out
    have KS : Hid (∀ Y, Calls Tryz.prog 26 #[.agg #[.string ⟨#[108, 105, 115, 112]⟩, .string m]] Y (fun e w' => e = .returned (.agg #[.int .i64 2, .string ⟨#[]⟩, .string ⟨#[]⟩, .string (BA (LA ⟨#[108, 105, 115, 112]⟩)), .string (BA (LA m)), .string ⟨#[]⟩, .slice none 0 0]) ∧ Below Y.heap.size Y w')) := fun Y =>
     (symO ⟨#[108, 105, 115, 112]⟩ m Y NoB).mono fun e w' ⟨p, he, hp, hb⟩ => by
       have hpe : p = .slice none 0 0 := hp
       subst hpe
       exact ⟨he, hb⟩
    have KE : Hid (∀ Y, Calls Tryz.prog 23 #[.agg #[.int .i64 2, .string ⟨#[]⟩, .string ⟨#[]⟩, .string (BA (LA ⟨#[108, 105, 115, 112]⟩)), .string (BA (LA m)), .string ⟨#[]⟩, .slice none 0 0], .agg #[.int .i64 2, .string ⟨#[]⟩, .string ⟨#[]⟩, .string (BA (LA ⟨#[108, 105, 115, 112]⟩)), .string (BA (LA m)), .string ⟨#[]⟩, .slice none 0 0]] Y (RetB Y true)) := fun Y => by
     have h0 : Hd Y (.sym (LA ⟨#[108, 105, 115, 112]⟩) (LA m)) (.slice none 0 0) := rfl
     have := equalO (.sym (LA ⟨#[108, 105, 115, 112]⟩) (LA m)) (.sym (LA ⟨#[108, 105, 115, 112]⟩) (LA m)) _ _ Y (Has Y) (In.has Y) h0 h0
     rwa [decide_eq_true rfl] at this
    have D2 := qh9 ((Below.refl X2.heap.size X2).drew)
    have e0 := E4.out.c0
    have e1 := (E4.out.keep D2.out).c0
    obtain ⟨m0, m1, m2, m3, m4, m5, m6⟩ := Bx.c B5.out
    obtain ⟨n0, n1, n2, n3, n4, n5, n6⟩ := Bx.c (B5.out.keep D2.out)
    have s0 := BS.out.c0
    have s1 := Sy.SB.c1 BS.out
    have s2 := (BS.out.keep D2.out).c0
    have s3 := Sy.SB.c1 (BS.out.keep D2.out)
    go_wp2_with fail
    go_region_with (first | (go_at_call 26; (with_reducible refine (KS.out _).mono ?_); rintro e w7 ⟨rfl, hb7⟩; have Z7 := qh9 (D2.out.trans hb7); obtain ⟨k0, k1, k2, k3, k4, k5, k6⟩ := Bx.c (B5.out.keep Z7.out); clear hb7) | (go_at_call 23; (with_reducible refine (KE.out _).mono ?_); rintro e w8 ⟨rfl, hb8⟩; have Z8 := qc9 Z7 hb8))
    all_goals (have HF := qh9 (chain2 HB.out Z8.out (Nat.le_refl _)); go_wp2; go_ret; exact ⟨rfl, HF.out⟩)
  · have hv1 : (Vn == 0) = false := by rw [beq_eq_false_iff_ne]; exact hv0
    go_wp2
    go_ret
    exact ⟨rfl, HB.out⟩
/-- NamesTrip, whatever the input. -/
theorem namesTrip_walk (m : ByteArray) (n : Int) (other : Bool) (w : World) (hn : I64 n) (hT : EscT w) :
 Calls Tryz.prog 8 #[.string m, .int .i64 n, .bool other] w (RetB w true) :=
 namesTripW m n other w hT hn.1 hn.2
end Go.Proofs.YtlmnjelideegnaaGreatDoor
