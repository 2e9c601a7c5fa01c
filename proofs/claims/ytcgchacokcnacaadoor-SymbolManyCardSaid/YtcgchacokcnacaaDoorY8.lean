/- The program defines a package. -/
import Derived.Test.YtcgchacokcnacaaDoorY7
namespace Go.Proofs.YtcgchacokcnacaaDoor
open Go Go.RowKit
set_option linter.unusedVariables false

/-- The call returned a list of packages and an error's number. -/
def RetD (w : World) (r : List Pg × Int) (e : Ending) (w' : World) : Prop := ∃ x, e = .returned (.tuple #[x, .int .i64 r.2]) ∧ PgV w' r.1 x ∧ Below w.heap.size w w'
theorem retTT {fn : Func} {r0 r1 : Tmp} {tmps : Array Value} {w : World} {u v : Value} {Q : Ending → World → Prop} (h : fn.results = #[.tmp r0, .tmp r1]) (h0 : tmps.getD r0 undef = u) (h1 : tmps.getD r1 undef = v) (hQ : Q (.returned (.tuple #[u, v])) w) : bodyPost Tryd.prog fn Q Exit.ret ⟨tmps, []⟩ w := by
  subst h0
  subst h1
  exact bodyPost_ret (v := .tuple #[tmps.getD r0 undef, tmps.getD r1 undef]) (by simp [results, h]) rfl hQ
theorem splice_at {cs cur : List Value} {L : Nat} {u v : Value} (h1 : cs.length = L * 2) (h2 : cur.length = (L + 1) * 2) :
    (((cs ++ cur.drop cs.length).set (L * 2) u).set (L * 2 + 1) v) = cs ++ [u, v] := by
  have h3 : (cur.drop cs.length).length = 2 := by rw [List.length_drop]; omega
  match hc : cur.drop cs.length, h3 with
  | [x, y], _ =>
    rw [List.set_append_right _ _ (by omega), h1, Nat.sub_self]
    show (cs ++ (u :: [y])).set (L * 2 + 1) v = _
    rw [List.set_append_right _ _ (by omega), h1, show L * 2 + 1 - L * 2 = 1 from by omega]
    rfl
theorem PgV.snoc {W : World} {l : List Pg} {cs : List Value} {n : ByteArray} {q : List Sy} {u : Value} {g c : Nat} (hg : W.heap[g]? = some (.cells (cs ++ [.string n, u]).toArray 26 (0, 0))) (hcl : cs.length = l.length * 2)
    (hcs : ∀ i (hi : i < l.length), cs[i * 2]? = some (.string l[i].1) ∧ ∃ u, cs[i * 2 + 1]? = some u ∧ SyV W l[i].2 u) (hu : SyV W q u) (hc : l.length + 1 ≤ c) (hc' : c ≤ maxLen) :
    PgV W (l ++ [(n, q)]) (.slice (some ⟨g, 0, none⟩) (l.length + 1) c) := by
  have hlen : (l ++ [(n, q)]).length = l.length + 1 := by simp
  have := PgV.of_row (W := W) (g := g) (c := c) (row := cs ++ [.string n, u]) (l := l ++ [(n, q)]) hg (by rw [hlen]; exact hc) hc' (fun i hi => by
    rw [hlen] at hi
    by_cases h : i < l.length
    · obtain ⟨h1, u', h2, h3⟩ := hcs i h
      rw [List.getElem?_append_left (by omega), List.getElem?_append_left (by omega), List.getElem_append_left h]
      exact ⟨h1, u', h2, h3⟩
    · have e : i = l.length := by omega
      subst e
      rw [List.getElem?_append_right (by omega), List.getElem?_append_right (by omega), hcl, Nat.sub_self, show l.length * 2 + 1 - l.length * 2 = 1 from by omega]
      have e2 : (l ++ [(n, q)])[l.length]'(by omega) = (n, q) := by simp
      rw [e2]
      exact ⟨rfl, u, rfl, hu⟩)
  rw [hlen] at this
  exact this
set_option maxHeartbeats 16000000 in
set_option maxRecDepth 100000 in
theorem defineY (l : List Pg) (v : Value) (n : ByteArray) (q : List Sy) (u : Value) (w : World) (hv : PgV w l v) (hu : SyV w q u) (hl : l.length ≤ 1000) (hi : ∀ p ∈ l, p.2.length ≤ 1000) (hq : q.length ≤ 1000) :
    Calls Tryd.prog 7 #[v, .agg #[.string n, u]] w (RetD w (defineM l (n, q))) := by
  have T := PB.new w (.string n) u
  have hB0 := Below.alloc (Below.refl w.heap.size w) (Nat.le_refl _) (.cells #[.string n, u] 26)
  have CK : Hid (∀ X, Below w.heap.size w X → Calls Tryd.prog 12 #[v, .agg #[.string n, u]] X (RetY X (.int .i64 (chkPkg l (n, q))))) := fun X hX => checkPackageY l v n q u X (hv.keep hX) (hu.keep hX) (by omega) (fun p hp => by have := hi p hp; omega) (by omega)
  clear hi
  obtain ⟨e, he⟩ : ∃ e, chkPkg l (n, q) = e := ⟨_, rfl⟩
  have hd : defineM l (n, q) = if e = 0 then (l ++ [(n, q)], 0) else ([], e) := by unfold defineM; rw [he]
  rw [he] at CK
  rw [hd]
  clear hd he
  have HV := Lib.hid hv
  have HU := Lib.hid hu
  obtain ⟨A, c, rfl, hlc, hcm, hA⟩ := hv
  obtain ⟨A', c', rfl, hqc, hqm, hA'⟩ := hu
  obtain ⟨cs, hc1, hc2, hc3, hc4⟩ := HV.out.cells
  obtain ⟨ds, hd1, hd2, hd3, hd4⟩ := HU.out.cells
  have HC2 := Lib.hid hc2
  have HC3 := Lib.hid hc3
  have HC4 := Lib.hid hc4
  have HD2 := Lib.hid hd2
  have HD3 := Lib.hid hd3
  have HD4 := Lib.hid hd4
  clear hA hA' hc2 hc3 hc4 hd2 hd3 hd4 HV HU
  by_cases he : e = 0
  · subst he
    rw [if_pos rfl]
    obtain ⟨L, hL⟩ : ∃ L, l.length = L := ⟨_, rfl⟩
    obtain ⟨M, hM⟩ : ∃ M, q.length = M := ⟨_, rfl⟩
    rw [hL] at hl hlc hc1 CK HC2 ⊢
    rw [hM] at hq hqc hd1 CK T hB0 HD2 ⊢
    have HL := Lib.hid hL
    have HM := Lib.hid hM
    have HC1 := Lib.hid hc1
    have HD1 := Lib.hid hd1
    clear hL hM hc1 hd1
    have hw1 : Hid (((L : Int) + 1) = ((L + 1 : Nat) : Int)) := by show _ = _; omega
    have hl1 : (L : Int) ≤ 1000 := by omega
    have hl0 : (0 : Int) ≤ (L : Int) := by omega
    go_enter Tryd.func7, Tryd.ntmps7
    go_wp2_with fail
    generalize w.alloc (.cells #[.string n, .slice A' M c'] 26) = W0 at T hB0 ⊢
    have m0 := T.c0
    have m1 := T.c1
    go_wp2_with fail
    refine (CK.out _ hB0).mono ?_
    rintro e w1 ⟨rfl, hb⟩
    have HT := Lib.hid (PB.keep T hb)
    have HB := Lib.hid (chainY hB0 hb (Nat.le_refl _))
    clear hb T hB0 m0 m1
    go_wp2_with (first
      | ((with_reducible refine mkP (.tmp 17) (.tmp 17) ?_ ?_ (L + 1) (by omega) ?_ ?_ ?_); rfl; rfl; exact congrArg (Value.int .i64) hw1.out; exact congrArg (Value.int .i64) hw1.out; intro w2 cur hcl hg2 hb2; have HG2 := Lib.hid hg2; have HCL := Lib.hid hcl; have HB2 := Lib.hid (chainY HB.out hb2 (Nat.le_refl _)); have HT2 := Lib.hid (PB.keep HT.out hb2); have HW2 := Lib.hid (show w1.heap.size < w2.heap.size from blk_ltY hg2); have HS1 := Lib.hid (show w.heap.size < w1.heap.size from HT.out.lt); clear hcl hg2 hb2)
      | ((with_reducible refine cpP (.tmp 19) (.tmp 20) ?_ ?_ w1.heap.size (L + 1) (L + 1) L c A ?_ ?_ (by omega) cur cs HG2.out HC1.out ?_ ?_ HC3.out ?_); rfl; rfl; rfl; rfl; (intro h0; obtain ⟨ad, h5, h6, h7⟩ := HC2.out h0; exact ⟨ad, h5, fun j v hj => (HB2.out.cell (p := ad.add j) (by rw [add_blockY]; exact h6)).trans (h7 j v hj)⟩); (have := HCL.out; have := HC1.out; omega); intro w3 hg3 hb3 ho3; have HG3 := Lib.hid hg3; have HB3 := Lib.hid (hb3 _ _ HB2.out (Nat.le_of_lt HS1.out)); have HT3 : Hid (PB w3 w.heap.size (.string n) (.slice A' M c')) := (ho3 _ (Nat.ne_of_lt HS1.out)).trans HT2.out; have HW3 : Hid (w1.heap.size < w3.heap.size) := blk_ltY hg3; have m0 := HT3.out.c0; have m1 := HT3.out.c1; clear hg3 hb3 ho3)
      | ((with_reducible refine mkS (.tmp 24) (.tmp 24) ?_ ?_ M (by omega) ?_ ?_ ?_); rfl; rfl; rfl; rfl; intro w4 cur4 hcl4 hg4 hb4; have HG4 := Lib.hid hg4; have HCL4 := Lib.hid hcl4; have HB4 := Lib.hid (chainY HB3.out hb4 (Nat.le_refl _)); have HT4 := Lib.hid (PB.keep HT3.out hb4); have HR4 := Lib.hid ((hb4.block _ HW3.out).trans HG3.out); clear m0 m1 hcl4 hg4 hb4; have m0 := HT4.out.c0; have m1 := HT4.out.c1)
      | ((with_reducible refine cpS (.tmp 26) (.tmp 28) ?_ ?_ w3.heap.size M M M c' A' ?_ ?_ (Nat.le_refl _) cur4 ds HG4.out HD1.out ?_ ?_ HD3.out ?_); rfl; rfl; rfl; rfl; (intro h0; obtain ⟨ad, h5, h6, h7⟩ := HD2.out h0; exact ⟨ad, h5, fun j v hj => (HB4.out.cell (p := ad.add j) (by rw [add_blockY]; exact h6)).trans (h7 j v hj)⟩); (have := HCL4.out; have := HD1.out; omega); intro w5 hg5 hb5 ho5; have HG5 := Lib.hid hg5; have HB5 := Lib.hid (hb5 _ _ HB4.out HB3.out.size); have HT5 : Hid (PB w5 w.heap.size (.string n) (.slice A' M c')) := (ho5 _ (by have := HT3.out.lt; omega)).trans HT4.out; have HR5 := Lib.hid ((ho5 _ (by have := HW3.out; omega)).trans HR4.out); clear m0 m1 hg5 hb5 ho5; have m0 := HT5.out.c0; have m1 := HT5.out.c1)
      | ((with_reducible refine stP (.tmp 37) (.tmp 36) ?_ ?_ w1.heap.size (L * 2) (.string n) (.slice (some ⟨w3.heap.size, 0, none⟩) M M) ?_ ?_ (cs ++ cur.drop cs.length) HR5.out ?_ ?_ ?_ ?_); rfl; rfl; rfl; rfl; (have h1 := HCL.out; have h2 := HC1.out; rw [List.length_append, List.length_drop]; omega); rfl; rfl; intro w6 hg6 hb6 ho6; have HG6 := Lib.hid hg6; have HB6 := Lib.hid (hb6 _ _ HB5.out (Nat.le_of_lt HS1.out)); have HQ6 := Lib.hid ((ho6 _ (by have := HW3.out; omega)).trans HG5.out); clear m0 m1 hg6 hb6 ho6))
    have hrow := HG6.out
    rw [splice_at HC1.out HCL.out] at hrow
    have hq6 := HQ6.out
    rw [List.drop_eq_nil_of_le (by have h1 := HCL4.out; have h2 := HD1.out; omega), List.append_nil] at hq6
    have hM := HM.out
    have hL := HL.out
    have hsy : SyV w6 q (.slice (some ⟨w3.heap.size, 0, none⟩) M M) := by
      have := SyV.of_row (l := q) (c := M) hq6 (by omega) (by unfold maxLen; omega) HD4.out
      rw [hM] at this
      exact this
    have hpg := PgV.snoc (l := l) (q := q) (c := L + 1) hrow (by rw [hL]; exact HC1.out) (fun i hi => by
      obtain ⟨h1, u, h2, h3⟩ := HC4.out i hi
      exact ⟨h1, u, h2, h3.keep HB6.out⟩) hsy (by omega) (by unfold maxLen; omega)
    rw [hL] at hpg
    exact retTT rfl rfl rfl ⟨_, rfl, hpg, HB6.out⟩
  · rw [if_neg he]
    go_enter Tryd.func7, Tryd.ntmps7
    go_wp2_with fail
    generalize w.alloc (.cells #[.string n, .slice A' q.length c'] 26) = W0 at T hB0 ⊢
    have m0 := T.c0
    have m1 := T.c1
    go_wp2_with fail
    refine (CK.out _ hB0).mono ?_
    rintro e w1 ⟨rfl, hb⟩
    have HB := Lib.hid (chainY hB0 hb (Nat.le_refl _))
    clear hb T hB0 m0 m1
    go_wp2_with fail
    exact retTT rfl rfl rfl ⟨_, rfl, PgV.nil _, HB.out⟩
end Go.Proofs.YtcgchacokcnacaaDoor
