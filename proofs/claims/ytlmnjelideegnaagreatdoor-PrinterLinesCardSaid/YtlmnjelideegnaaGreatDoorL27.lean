import Derived.Test.YtlmnjelideegnaaGreatDoorCl
import Derived.Test.YtlmnjelideegnaaGreatDoorL26
import Derived.Test.YtlmnjelideegnaaGreatDoorL24
import Derived.Deep.RegionHeld3
import Derived.Test.YtlmnjelideegnaaGreatDoorL17
import Derived.Test.YtlmnjelideegnaaGreatDoorL16
import Derived.Test.YtlmnjelideegnaaGreatDoorL15
import Derived.Deep.RegionWith
namespace Go.Proofs.YtlmnjelideegnaaGreatDoor
open Go Go.RowKit
set_option linter.unusedVariables false
set_option maxHeartbeats 32000000
set_option maxRecDepth 100000
def TkS (ts : List Tk) : Prop := ts.length ≤ 10000 ∧ ∀ t ∈ ts, t.k = 5 → t.txt.length ≤ 1000 ∧ t.den.length ≤ 1000
def Val7 (o : Ob) (p x0 x1 x2 x3 x4 x5 : Value) : Prop := cellsO o p = [x0, x1, x2, x3, x4, x5, p]


section
variable {sym : Tk → (List UInt8 × List UInt8) × Int} {num : Tk → Rat} {f : Nat} {d : Int} {acc : List Ob} {t u : Tk} {r r1 : List Tk} {o : Ob} {x q : Int}
end

structure SmS (s : ByteArray) : Prop where
 size : s.size ≤ 1000000
 toks : ∀ ts, scanS s = .ok ts → ts.length ≤ 700


theorem own_cells {w : World} {B : Nat} {e : TypeId} {z n : Nat} {v : Value} {ys : List Value} (h : w.ownsRow B e z v n ys) (hn : 0 < n) : ∃ b c, v = .slice (some ⟨b, 0, none⟩) n c ∧ n ≤ c ∧ c ≤ maxLen ∧ B ≤ b ∧ b < w.heap.size ∧ ∀ j u, ys[j]? = some u → w.cell? ⟨b, j, none⟩ = some u := by
 rcases h.2 with ⟨rfl, h0⟩ | ⟨gb, cap, cur', rfl, hb, hh, hn', hm, hcs, hcur⟩
 · omega
 · refine ⟨gb, cap, rfl, ?_, ?_, hb, Sy.blk_ltY hh, fun j u hj => ?_⟩
   · omega
   · omega
   · rw [cell_of_row _ _ _ _ _ _ hh]
     rw [← hcur] at hj
     rw [List.getElem?_take] at hj
     split at hj
     · simpa using hj
     · cases hj
def RetP5 (w : World) (l : List Sy.Pg) (e : Ending) (w' : World) : Prop := ∃ x, e = .returned x ∧ Sy.PgV w' l x ∧ Below w.heap.size w w'
def initM5 : List Sy.Pg := [(⟨#[108, 105, 115, 112]⟩, [])]
theorem iniP5 (w : World) : Sy.PgV (w.alloc (.cells #[.string ⟨#[108, 105, 115, 112]⟩, .slice none 0 0] 69)) initM5 (.slice (some ⟨w.heap.size, 0, none⟩) 1 1) :=
 Sy.PgV.of_row (row := [.string ⟨#[108, 105, 115, 112]⟩, .slice none 0 0]) (l := initM5) (heap_alloc_new w _) (Nat.le_refl _) (by unfold maxLen; omega) (fun i hi => by
  have e : i = 0 := by simp [initM5] at hi; omega
  subst e
  exact ⟨rfl, _, rfl, Sy.SyV.nil _⟩)
theorem initialR5 (w : World) : Calls Tryz.prog 30 #[] w (RetP5 w initM5) := by
 go_enter Tryz.func30, Tryz.ntmps30
 go_wp2_with fail
 go_ret
 exact ⟨_, rfl, iniP5 w, Below.alloc (Below.refl _ _) (Nat.le_refl _) _⟩
theorem flatT_at : ∀ (ts : List Tk) (i : Nat) (hi : i < ts.length) (k : Nat), k < 5 → (flatT ts)[i * 5 + k]? = (tkC ts[i]).toList[k]?
 | t :: ts, 0, hi, k, hk => by
  rw [flatT_cons, Nat.zero_mul, Nat.zero_add, List.getElem?_append_left (by show k < 5; exact hk)]; rfl
 | t :: ts, i + 1, hi, k, hk => by
  rw [flatT_cons, List.getElem?_append_right (by show 5 ≤ _; omega)]
  have := flatT_at ts i (by simpa using hi) k hk
  rw [show (i + 1) * 5 + k - (tkC t).toList.length = i * 5 + k from by show _ - 5 = _; omega, this]; rfl
theorem TkV.at {w : World} {B : Nat} {ts : List Tk} {v : Value} (h : TkV w B ts v) (i : Nat) (hi : i < ts.length) : ∃ b o c, v = .slice (some ⟨b, o, none⟩) ts.length c ∧ b < w.heap.size ∧
 w.cell? ⟨b, o + i * 5, none⟩ = some (.int .i64 ts[i].k) ∧ w.cell? ⟨b, o + i * 5 + 1, none⟩ = some (.int .i64 ts[i].p) ∧ w.cell? ⟨b, o + i * 5 + 2, none⟩ = some (.string (BA ts[i].pkg)) ∧ w.cell? ⟨b, o + i * 5 + 3, none⟩ = some (.string (BA ts[i].txt)) ∧ w.cell? ⟨b, o + i * 5 + 4, none⟩ = some (.string (BA ts[i].den)) := by
 obtain ⟨A, c, rfl, h2, h3, h4⟩ := h
 obtain ⟨b, o, rfl, h6, h7⟩ := h4 (by omega)
 have e : ∀ k, k < 5 → ∀ u, (tkC ts[i]).toList[k]? = some u → w.cell? ⟨b, o + i * 5 + k, none⟩ = some u := fun k hk u hj => by
  have := h7 (i * 5 + k) u (by rw [flatT_at ts i hi k hk]; exact hj)
  rwa [← Nat.add_assoc] at this
 exact ⟨b, o, c, rfl, h6.2, e 0 (by decide) _ rfl, e 1 (by decide) _ rfl, e 2 (by decide) _ rfl, e 3 (by decide) _ rfl, e 4 (by decide) _ rfl⟩
theorem con_eq (c : UInt8) : conB c = (decide (33 ≤ (c.toNat : Int)) && (decide ((c.toNat : Int) ≤ 126) && ((c.toNat : Int) != 40 && ((c.toNat : Int) != 41 && ((c.toNat : Int) != 39 && ((c.toNat : Int) != 34 && ((c.toNat : Int) != 59 && ((c.toNat : Int) != 124 && ((c.toNat : Int) != 58))))))))) := by
 have h : ((List.range 256).all fun n => conB (UInt8.ofNat n) == (decide (33 ≤ ((UInt8.ofNat n).toNat : Int)) && (decide (((UInt8.ofNat n).toNat : Int) ≤ 126) && (((UInt8.ofNat n).toNat : Int) != 40 && (((UInt8.ofNat n).toNat : Int) != 41 && (((UInt8.ofNat n).toNat : Int) != 39 && (((UInt8.ofNat n).toNat : Int) != 34 && (((UInt8.ofNat n).toNat : Int) != 59 && (((UInt8.ofNat n).toNat : Int) != 124 && (((UInt8.ofNat n).toNat : Int) != 58)))))))))) = true := by kernel_rfl
 have := List.all_eq_true.1 h c.toNat (List.mem_range.2 c.toNat_lt)
 rw [UInt8.ofNat_toNat] at this
 exact eq_of_beq this
theorem conR0 (x : Int) (b : Bool) (h : (decide (33 ≤ x) && (decide (x ≤ 126) && (x != 40 && (x != 41 && (x != 39 && (x != 34 && (x != 59 && (x != 124 && (x != 58))))))))) = b) (w : World) : Calls Tryz.prog 75 #[.int .u8 x] w fun e w' => e = .returned (.bool b) ∧ w = w' := by
 cases a1 : decide (33 ≤ x) with
 | false =>
  rw [a1] at h
  simp at h
  subst h
  have a1' : ¬ (33 ≤ x) := by simpa using a1
  go_enter Tryz.func75, Tryz.ntmps75
  go_wp2
  go_ret
  exact ⟨rfl, rfl⟩
 | true =>
  rw [a1] at h
  have a1' : 33 ≤ x := by simpa using a1
  cases a2 : decide (x ≤ 126) with
  | false =>
   rw [a2] at h
   simp at h
   subst h
   have a2' : ¬ (x ≤ 126) := by simpa using a2
   go_enter Tryz.func75, Tryz.ntmps75
   go_wp2
   go_ret
   exact ⟨rfl, rfl⟩
  | true =>
   rw [a2] at h
   have a2' : x ≤ 126 := by simpa using a2
   cases e40 : (x != 40) with
   | false =>
    rw [e40] at h
    simp at h
    subst h
    go_enter Tryz.func75, Tryz.ntmps75
    go_wp2
    go_ret
    exact ⟨rfl, rfl⟩
   | true =>
    rw [e40] at h
    cases e41 : (x != 41) with
    | false =>
     rw [e41] at h
     simp at h
     subst h
     go_enter Tryz.func75, Tryz.ntmps75
     go_wp2
     go_ret
     exact ⟨rfl, rfl⟩
    | true =>
     rw [e41] at h
     cases e39 : (x != 39) with
     | false =>
      rw [e39] at h
      simp at h
      subst h
      go_enter Tryz.func75, Tryz.ntmps75
      go_wp2
      go_ret
      exact ⟨rfl, rfl⟩
     | true =>
      rw [e39] at h
      cases e34 : (x != 34) with
      | false =>
       rw [e34] at h
       simp at h
       subst h
       go_enter Tryz.func75, Tryz.ntmps75
       go_wp2
       go_ret
       exact ⟨rfl, rfl⟩
      | true =>
       rw [e34] at h
       cases e59 : (x != 59) with
       | false =>
        rw [e59] at h
        simp at h
        subst h
        go_enter Tryz.func75, Tryz.ntmps75
        go_wp2
        go_ret
        exact ⟨rfl, rfl⟩
       | true =>
        rw [e59] at h
        cases e124 : (x != 124) with
        | false =>
         rw [e124] at h
         simp at h
         subst h
         go_enter Tryz.func75, Tryz.ntmps75
         go_wp2
         go_ret
         exact ⟨rfl, rfl⟩
        | true =>
         rw [e124] at h
         cases e58 : (x != 58) with
         | false =>
          rw [e58] at h
          simp at h
          subst h
          go_enter Tryz.func75, Tryz.ntmps75
          go_wp2
          go_ret
          exact ⟨rfl, rfl⟩
         | true =>
          rw [e58] at h
          simp at h
          subst h
          go_enter Tryz.func75, Tryz.ntmps75
          go_wp2
          go_ret
          exact ⟨rfl, rfl⟩
theorem conR (c : UInt8) (w : World) : Calls Tryz.prog 75 #[.int .u8 (c.toNat : Int)] w fun e w' => e = .returned (.bool (conB c)) ∧ w = w' := conR0 _ _ (con_eq c).symm w
namespace Sy
def RetD (w : World) (r : List Pg × Int) (e : Ending) (w' : World) : Prop := ∃ x, e = .returned (.tuple #[x, .int .i64 r.2]) ∧ PgV w' r.1 x ∧ Below w.heap.size w w'
theorem retTT {fn : Func} {r0 r1 : Tmp} {tmps : Array Value} {w : World} {u v : Value} {Q : Ending → World → Prop} (h : fn.results = #[.tmp r0, .tmp r1]) (h0 : tmps.getD r0 undef = u) (h1 : tmps.getD r1 undef = v) (hQ : Q (.returned (.tuple #[u, v])) w) : bodyPost Tryz.prog fn Q Exit.ret ⟨tmps, []⟩ w := by
 subst h0
 subst h1
 exact bodyPost_ret (v := .tuple #[tmps.getD r0 undef, tmps.getD r1 undef]) (by simp [results, h]) rfl hQ
theorem PgV.snoc {W : World} {l : List Pg} {cs : List Value} {n : ByteArray} {q : List Sy} {u : Value} {g c : Nat} (hg : W.heap[g]? = some (.cells (cs ++ [.string n, u]).toArray 69 (0, 0))) (hcl : cs.length = l.length * 2)
 (hcs : ∀ i (hi : i < l.length), cs[i * 2]? = some (.string l[i].1) ∧ ∃ u, cs[i * 2 + 1]? = some u ∧ SyV W l[i].2 u) (hu : SyV W q u) (hc : l.length + 1 ≤ c) (hc' : c ≤ maxLen) :
 PgV W (l ++ [(n, q)]) (.slice (some ⟨g, 0, none⟩) (l.length + 1) c) := by
 have hlen : (l ++ [(n, q)]).length = l.length + 1 := by simp
 have := PgV.of_row (W := W) (g := g) (c := c) (row := cs ++ [.string n, u]) (l := l ++ [(n, q)]) hg (by rw [hlen]; exact hc) hc' (fun i hi => by
  rw [hlen] at hi
  by_cases h : i < l.length
  · obtain ⟨h1, u', h2, h3⟩ := hcs i h
    rw [List.getElem?_append_left (by omega), List.getElem?_append_left (by omega), List.getElem_append_left h]
    exact ⟨h1, u', h2, h3⟩
  · have e : i = l.length := by omega
    subst e
    rw [List.getElem?_append_right (by omega), List.getElem?_append_right (by omega), hcl, Nat.sub_self, show l.length * 2 + 1 - l.length * 2 = 1 from by omega]
    have e2 : (l ++ [(n, q)])[l.length]'(by omega) = (n, q) := by simp
    rw [e2]
    exact ⟨rfl, u, rfl, hu⟩)
 rw [hlen] at this
 exact this
end Sy


def NuF (R : Option (List UInt8 × List UInt8)) (e : Ending) : Prop := match R with
 | some q => e = .returned (.tuple #[.string (BA q.1), .string (BA q.2), .bool true])
 | none => e = .returned (.tuple #[.string ⟨#[]⟩, .string ⟨#[]⟩, .bool false])
def NuP (R : Option (List UInt8 × List UInt8)) (w : World) (e : Ending) (w' : World) : Prop := NuF R e ∧ ∃ n, w' = w.drewN n
theorem NuP.none_ {R : Option (List UInt8 × List UInt8)} {w : World} (h : none = R) : NuP R w (.returned (.tuple #[.string ⟨#[]⟩, .string ⟨#[]⟩, .bool false])) w := by
 subst h
 exact ⟨rfl, 0, rfl⟩
theorem NuP.some_ {R : Option (List UInt8 × List UInt8)} {w w' : World} {a b : List UInt8} {x y : ByteArray} (h : some (a, b) = R) (hx : x = BA a) (hy : y = BA b) (hw : ∃ n, w' = w.drewN n) : NuP R w (.returned (.tuple #[.string x, .string y, .bool true])) w' := by
 subst h hx hy
 exact ⟨rfl, hw⟩
theorem digU_int (c : UInt8) : digU c = (decide (48 ≤ (c.toNat : Int)) && decide ((c.toNat : Int) ≤ 57)) := by
 have h : ((List.range 256).all fun n => digU (UInt8.ofNat n) == (decide (48 ≤ ((UInt8.ofNat n).toNat : Int)) && decide (((UInt8.ofNat n).toNat : Int) ≤ 57))) = true := by kernel_rfl
 have := List.all_eq_true.1 h c.toNat (List.mem_range.2 c.toNat_lt)
 rw [UInt8.ofNat_toNat] at this
 exact eq_of_beq this
def NuA (s : ByteArray) (i : Nat) (X D : List UInt8) (k : Nat) : Prop := (s.extract i k).data.toList ++ ((LA s).drop k).takeWhile digU = X ∧ ((LA s).drop k).dropWhile digU = D
theorem NuA.start (s : ByteArray) (i : Nat) : NuA s i (((LA s).drop i).takeWhile digU) (((LA s).drop i).dropWhile digU) i := ⟨by rw [ext_nil]; rfl, rfl⟩
theorem NuA.step {s : ByteArray} {i k : Nat} {X D : List UInt8} (h : NuA s i X D k) (hik : i ≤ k) (hk : k < s.size) (hd : digU s[k] = true) : NuA s i X D (k + 1) := by
 obtain ⟨h1, h2⟩ := h
 rw [la_drop hk, List.takeWhile_cons, if_pos hd] at h1
 rw [la_drop hk, List.dropWhile_cons, if_pos hd] at h2
 exact ⟨by rw [ext_snoc s hik hk, List.append_assoc]; exact h1, h2⟩
theorem NuA.stop {s : ByteArray} {i k : Nat} {X D : List UInt8} (h : NuA s i X D k) (hk : k < s.size) (hd : digU s[k] = false) : (s.extract i k).data.toList = X ∧ s[k] :: (LA s).drop (k + 1) = D := by
 obtain ⟨h1, h2⟩ := h
 rw [la_drop hk, List.takeWhile_cons, if_neg (by rw [hd]; simp), List.append_nil] at h1
 rw [la_drop hk, List.dropWhile_cons, if_neg (by rw [hd]; simp)] at h2
 exact ⟨h1, h2⟩
theorem NuA.last {s : ByteArray} {i k : Nat} {X D : List UInt8} (h : NuA s i X D k) (hk : k = s.size) : (s.extract i k).data.toList = X ∧ [] = D := by
 obtain ⟨h1, h2⟩ := h
 rw [la_end (by omega)] at h1 h2
 exact ⟨by rw [List.takeWhile_nil, List.append_nil] at h1; exact h1, h2⟩
def numXD (s : ByteArray) (pre X D : List UInt8) : Option (List UInt8 × List UInt8) := if X = [] then none else
 match D with
 | [] => some (LA s, [49])
 | c :: y => if c = 47 ∧ isDigL y = true then some (pre ++ X, y) else none
theorem numXD_eq (s : ByteArray) : numRL (LA s) = numXD s (if isM (LA s) then [45] else []) ((afterM (LA s)).takeWhile digU) ((afterM (LA s)).dropWhile digU) := by
 unfold numRL numXD
 rfl
theorem ext_ne {s : ByteArray} {i k : Nat} {X : List UInt8} (h : (s.extract i k).data.toList = X) (hik : i < k) (hk : k ≤ s.size) : X ≠ [] := by
 rintro rfl
 rw [la_ext] at h
 have := congrArg List.length h
 rw [List.length_take, List.length_drop, la_length] at this
 simp at this
 omega
theorem isM_cons {c : UInt8} {l : List UInt8} (h : ¬ c = 45) : isM (c :: l) = false ∧ afterM (c :: l) = c :: l := by
 constructor
 · unfold isM
   split
   · rename_i heq; injection heq with heq _; exact absurd heq h
   · rfl
 · unfold afterM
   split
   · rename_i heq; injection heq with heq _; exact absurd heq h
   · rfl
theorem ext_front {s : ByteArray} {k : Nat} {X : List UInt8} (h : (s.extract 0 k).data.toList = X) : s.extract 0 k = BA ([] ++ X) := ba_of h
theorem ext_minus {s : ByteArray} {k : Nat} {X : List UInt8} (h0 : 0 < s.size) (hc : s[0] = 45) (hk : 1 ≤ k) (h : (s.extract 1 k).data.toList = X) : s.extract 0 k = BA ([45] ++ X) := by
 refine ba_of ?_
 rw [← h, la_ext, la_ext, List.drop_zero]
 have := la_drop h0
 rw [List.drop_zero] at this
 rw [this, hc, show k - 0 = (k - 1) + 1 by omega, List.take_succ_cons, Nat.zero_add]
 rfl
theorem numeralR (s : ByteArray) (hs : s.size ≤ 6000) (w : World) : Calls Tryz.prog 106 #[.string s] w (NuP (numRL (LA s)) w) := by
 obtain ⟨R, hR⟩ : ∃ R, numRL (LA s) = R := ⟨_, rfl⟩
 rw [hR]
 rw [numXD_eq] at hR
 rcases Nat.eq_zero_or_pos s.size with h0 | h0
 · have hl : LA s = [] := List.eq_nil_of_length_eq_zero (by rw [la_length, h0])
   rw [hl] at hR
   have HR : Hid (none = R) := hR
   have a1 : (s.size : Int) = 0 := by omega
   have a2 : ¬ (0 : Int) < (s.size : Int) := by omega
   have HR2 := HR
   clear hR hl
   go_enter Tryz.func106, Tryz.ntmps106
   go_wp2_with fail
   go_loop [6] (fun v => v = .int .i64 0) (fun v => 0)
   case atStart => rfl
   case round =>
    obtain rfl := hrel
    go_wp2
    exact bodyPost_ret (results_tmp3 rfl _ _ _) rfl (NuP.none_ HR2.out)
 · have hl := la_drop h0
   rw [List.drop_zero] at hl
   have a2 : (0 : Int) < (s.size : Int) := by omega
   have a3 : (0 : Int) ≤ (0 : Int) ∧ (0 : Int) < (s.size : Int) := by omega
   by_cases h45 : s[0] = 45
   · have hM : isM (LA s) = true ∧ afterM (LA s) = (LA s).drop 1 := by
      rw [hl, h45]
      exact ⟨rfl, rfl⟩
     rw [hM.1, hM.2] at hR
     have HN : Hid (numXD s [45] (((LA s).drop 1).takeWhile digU) (((LA s).drop 1).dropWhile digU) = R) := hR
     have e0 : ((s[0].toNat : Int) == 45) = true := int_eq 45 h45
     have H45 := qh9 h45
     clear hR hl hM h45
     have HA0 := qh9 (NuA.start s 1)
     generalize ((LA s).drop 1).takeWhile digU = X at HN HA0
     generalize ((LA s).drop 1).dropWhile digU = D at HN HA0
     go_enter Tryz.func106, Tryz.ntmps106
     go_wp2_with fail
     go_loop [6] (fun v => ∃ k : Nat, 1 ≤ k ∧ k ≤ s.size ∧ v = .int .i64 (k : Int) ∧ Hid (NuA s 1 X D k)) (fun v => s.size - (intOf v).toNat)
     case atStart => exact ⟨1, Nat.le_refl _, by omega, rfl, HA0⟩
     case round =>
      clear HA0
      obtain ⟨k, hik, hk, rfl, HA⟩ := hrel
      rcases Nat.lt_or_ge k s.size with hlt | hge
      · have d1 : (k : Int) < (s.size : Int) := by omega
        have d2 : (0 : Int) ≤ (k : Int) ∧ (k : Int) < (s.size : Int) := by omega
        have hdi := digU_int s[k]
        by_cases hd : digU s[k] = true
        · have e1 : (48 : Int) ≤ (s[k].toNat : Int) ∧ (s[k].toNat : Int) ≤ 57 := by rw [hd] at hdi; simpa using hdi.symm
          have e2 := e1.1
          have e3 := e1.2
          have HA2 := qh9 (HA.out.step hik hlt hd)
          clear hdi hd e1 HA
          go_wp2
          go_round
          case rel => exact ⟨k + 1, by omega, hlt, by go_num, HA2⟩
          case measure => simp [intOf]; omega
        · have hd2 : digU s[k] = false := by simpa using hd
          obtain ⟨hX, hD⟩ := HA.out.stop hlt hd2
          have e4 : ¬ (48 : Int) ≤ (s[k].toNat : Int) ∨ ((48 : Int) ≤ (s[k].toNat : Int) ∧ ¬ (s[k].toNat : Int) ≤ 57) := by
           rw [hd2] at hdi
           by_cases h : (48 : Int) ≤ (s[k].toNat : Int)
           · right; refine ⟨h, ?_⟩; rw [decide_eq_true h] at hdi; simpa using hdi.symm
           · exact .inl h
          subst hD
          have HX := qh9 hX
          clear hdi hd hd2 hX HA
          by_cases hki : k = 1
          · have hX0 : X = [] := by
             have := HX.out
             rw [hki, ext_nil] at this
             exact this.symm
            have HR : Hid (none = R) := by
             have := HN.out
             unfold numXD at this
             rw [if_pos hX0] at this
             exact this
            have d3 : ((k : Int) == 1) = true := by rw [hki]; rfl
            clear hX0 HN HX hki
            rcases e4 with e4 | ⟨e4, e5⟩
            all_goals
             go_wp2
             exact bodyPost_ret (results_tmp3 rfl _ _ _) rfl (NuP.none_ HR.out)
          · have hX0 := ext_ne HX.out (show 1 < k by omega) hk
            have HR : Hid ((if s[k] = 47 ∧ isDigL ((LA s).drop (k + 1)) = true then some ([45] ++ X, (LA s).drop (k + 1)) else none) = R) := by
             have := HN.out
             unfold numXD at this
             rw [if_neg hX0] at this
             exact this
            have d3 : ((k : Int) == 1) = false := by rw [beq_eq_false_iff_ne]; omega
            have d4 : ((k : Int) == (s.size : Int)) = false := by rw [beq_eq_false_iff_ne]; omega
            clear hX0 HN hki
            by_cases h47 : s[k] = 47
            · have e6 : ((s[k].toNat : Int) != 47) = false := by rw [h47]; rfl
              have e7 : ¬ (48 : Int) ≤ (s[k].toNat : Int) := by rw [h47]; decide
              have HR2 : Hid ((if isDigL ((LA s).drop (k + 1)) = true then some ([45] ++ X, (LA s).drop (k + 1)) else none) = R) := by
               have := HR.out
               show _ = _
               rw [← this]
               by_cases hB : isDigL ((LA s).drop (k + 1)) = true
               · rw [if_pos hB, if_pos ⟨h47, hB⟩]
               · rw [if_neg hB, if_neg (fun h => hB h.2)]
              clear h47 HR e4
              by_cases hk1 : k + 1 = s.size
              · have d5 : ((k : Int) + 1 == (s.size : Int)) = true := by rw [beq_iff_eq]; omega
                have HR3 : Hid (none = R) := by
                 have := HR2.out
                 rw [la_end (show s.size ≤ k + 1 by omega), if_neg (by simp [isDigL])] at this
                 exact this
                clear hk1 HR2
                go_wp2
                exact bodyPost_ret (results_tmp3 rfl _ _ _) rfl (NuP.none_ HR3.out)
              · have d5 : ((k : Int) + 1 == (s.size : Int)) = false := by rw [beq_eq_false_iff_ne]; omega
                have hne : (LA s).drop (k + 1) ≠ [] := by
                 intro h
                 have := congrArg List.length h
                 rw [List.length_drop, la_length] at this
                 simp at this
                 omega
                have HR3 : Hid ((if ((LA s).drop (k + 1)).all digU = true then some ([45] ++ X, (LA s).drop (k + 1)) else none) = R) := by
                 have := HR2.out
                 unfold isDigL at this
                 rw [show ((LA s).drop (k + 1)).isEmpty = false by cases h : (LA s).drop (k + 1); exact absurd h hne; rfl] at this
                 exact this
                clear hne HR2 hk1
                go_wp2_with fail
                go_loop [7] (fun v => ∃ n : Nat, k + 1 ≤ n ∧ n ≤ s.size ∧ v = .int .i64 (n : Int) ∧ Hid (((LA s).drop (k + 1)).all digU = ((LA s).drop n).all digU)) (fun v => s.size - (intOf v).toNat)
                case atStart => exact ⟨k + 1, Nat.le_refl _, hlt, by go_num, qh9 rfl⟩
                case round =>
                 obtain ⟨n, hkn, hn, rfl, HQ⟩ := hrel
                 rcases Nat.lt_or_ge n s.size with hnl | hng
                 · have c1 : (n : Int) < (s.size : Int) := by omega
                   have c2 : (0 : Int) ≤ (n : Int) ∧ (n : Int) < (s.size : Int) := by omega
                   have hdi := digU_int s[n]
                   by_cases hd : digU s[n] = true
                   · have f1 : (48 : Int) ≤ (s[n].toNat : Int) ∧ (s[n].toNat : Int) ≤ 57 := by rw [hd] at hdi; simpa using hdi.symm
                     have f2 : ¬ (s[n].toNat : Int) < 48 := by omega
                     have f3 : ¬ (57 : Int) < (s[n].toNat : Int) := by omega
                     have HQ2 : Hid (((LA s).drop (k + 1)).all digU = ((LA s).drop (n + 1)).all digU) := by
                      show _ = _
                      rw [HQ.out, la_drop hnl, List.all_cons, hd, Bool.true_and]
                     clear hdi hd f1 HQ
                     go_wp2
                     go_round
                     case rel => exact ⟨n + 1, by omega, hnl, by go_num, HQ2⟩
                     case measure => simp [intOf]; omega
                   · have hd2 : digU s[n] = false := by simpa using hd
                     have HR4 : Hid (none = R) := by
                      have h1 := HR3.out
                      rw [HQ.out, la_drop hnl, List.all_cons, hd2, Bool.false_and, if_neg (by simp)] at h1
                      exact h1
                     have f1 : (s[n].toNat : Int) < 48 ∨ (¬ (s[n].toNat : Int) < 48 ∧ (57 : Int) < (s[n].toNat : Int)) := by
                      rw [hd2] at hdi
                      by_cases h : (s[n].toNat : Int) < 48
                      · exact .inl h
                      · right; refine ⟨h, ?_⟩; rw [decide_eq_true (show (48 : Int) ≤ (s[n].toNat : Int) by omega)] at hdi; have := hdi.symm; simp at this; omega
                     clear hdi hd hd2 HQ HR3
                     rcases f1 with f1 | ⟨f1, f2⟩
                     all_goals
                      go_wp2
                      exact bodyPost_ret (results_tmp3 rfl _ _ _) rfl (NuP.none_ HR4.out)
                 · have c1 : ¬ (n : Int) < (s.size : Int) := by omega
                   have HR4 : Hid (some ([45] ++ X, (LA s).drop (k + 1)) = R) := by
                    have h1 := HR3.out
                    rw [HQ.out, la_end hng, List.all_nil, if_pos rfl] at h1
                    exact h1
                   have b1 : (0 : Int) ≤ (k : Int) ∧ (k : Int) ≤ (s.size : Int) := by omega
                   have b2 : (0 : Int) ≤ (k : Int) + 1 ∧ (k : Int) + 1 ≤ (s.size : Int) := by omega
                   have b3 : (0 : Int) ≤ (k : Int) := by omega
                   have b4 : (k : Int) ≤ (s.size : Int) := by omega
                   have b5 : (k : Int) + 1 ≤ (s.size : Int) := by omega
                   have b6 : (0 : Int) ≤ (k : Int) + 1 := by omega
                   have hw1 : IntKind.i64.wrap ((k : Int) + 1) = (k : Int) + 1 := IntWalk.i64_in _ (by omega)
                   have hn1 : ((k : Int) + 1).toNat = k + 1 := by omega
                   clear HQ HR3 hng
                   go_wp2_with fail
                   go_quiet (fail)
                   clear hw1 hn1
                   go_wp2
                   exact bodyPost_ret (results_tmp3 rfl _ _ _) rfl (NuP.some_ HR4.out (ext_minus h0 H45.out (by omega) HX.out) (ba_of (la_extract (show k + 1 ≤ s.size from hlt))) ⟨nq, rfl⟩)
            · have e6 : ((s[k].toNat : Int) != 47) = true := (byte_ne (a := s[k]) (b := 47)).trans (bne_iff_ne.2 h47)
              have HR2 : Hid (none = R) := by
               have := HR.out
               rw [if_neg (fun h => h47 h.1)] at this
               exact this
              clear h47 HR
              rcases e4 with e4 | ⟨e4, e5⟩
              all_goals
               go_wp2
               exact bodyPost_ret (results_tmp3 rfl _ _ _) rfl (NuP.none_ HR2.out)
      · have d1 : ¬ (k : Int) < (s.size : Int) := by omega
        have hks : k = s.size := by omega
        obtain ⟨hX, hD⟩ := HA.out.last hks
        subst hD
        by_cases hki : k = 1
        · have hX0 : X = [] := by
           rw [hki, ext_nil] at hX
           exact hX.symm
          have HR : Hid (none = R) := by
           have := HN.out
           unfold numXD at this
           rw [if_pos hX0] at this
           exact this
          have d3 : ((k : Int) == 1) = true := by rw [hki]; rfl
          clear hX0 HN hX hki hks HA
          go_wp2
          exact bodyPost_ret (results_tmp3 rfl _ _ _) rfl (NuP.none_ HR.out)
        · have hX0 := ext_ne hX (show 1 < k by omega) hk
          have HR : Hid (some (LA s, [49]) = R) := by
           have := HN.out
           unfold numXD at this
           rw [if_neg hX0] at this
           exact this
          have d3 : ((k : Int) == 1) = false := by rw [beq_eq_false_iff_ne]; omega
          have d4 : ((k : Int) == (s.size : Int)) = true := by rw [beq_iff_eq]; omega
          clear hX0 HN hX hki hks HA
          go_wp2
          exact bodyPost_ret (results_tmp3 rfl _ _ _) rfl (NuP.some_ HR.out rfl rfl ⟨0, rfl⟩)
   · have hM := isM_cons (l := (LA s).drop 1) h45
     rw [← hl] at hM
     rw [hM.1, hM.2] at hR
     have HN : Hid (numXD s [] (((LA s).drop 0).takeWhile digU) (((LA s).drop 0).dropWhile digU) = R) := hR
     have e0 : ((s[0].toNat : Int) == 45) = false := int_ne 45 h45
     clear hR hl hM h45
     have HA0 := qh9 (NuA.start s 0)
     generalize ((LA s).drop 0).takeWhile digU = X at HN HA0
     generalize ((LA s).drop 0).dropWhile digU = D at HN HA0
     go_enter Tryz.func106, Tryz.ntmps106
     go_wp2_with fail
     go_loop [6] (fun v => ∃ k : Nat, 0 ≤ k ∧ k ≤ s.size ∧ v = .int .i64 (k : Int) ∧ Hid (NuA s 0 X D k)) (fun v => s.size - (intOf v).toNat)
     case atStart => exact ⟨0, Nat.le_refl _, by omega, rfl, HA0⟩
     case round =>
      clear HA0
      obtain ⟨k, hik, hk, rfl, HA⟩ := hrel
      rcases Nat.lt_or_ge k s.size with hlt | hge
      · have d1 : (k : Int) < (s.size : Int) := by omega
        have d2 : (0 : Int) ≤ (k : Int) ∧ (k : Int) < (s.size : Int) := by omega
        have hdi := digU_int s[k]
        by_cases hd : digU s[k] = true
        · have e1 : (48 : Int) ≤ (s[k].toNat : Int) ∧ (s[k].toNat : Int) ≤ 57 := by rw [hd] at hdi; simpa using hdi.symm
          have e2 := e1.1
          have e3 := e1.2
          have HA2 := qh9 (HA.out.step hik hlt hd)
          clear hdi hd e1 HA
          go_wp2
          go_round
          case rel => exact ⟨k + 1, by omega, hlt, by go_num, HA2⟩
          case measure => simp [intOf]; omega
        · have hd2 : digU s[k] = false := by simpa using hd
          obtain ⟨hX, hD⟩ := HA.out.stop hlt hd2
          have e4 : ¬ (48 : Int) ≤ (s[k].toNat : Int) ∨ ((48 : Int) ≤ (s[k].toNat : Int) ∧ ¬ (s[k].toNat : Int) ≤ 57) := by
           rw [hd2] at hdi
           by_cases h : (48 : Int) ≤ (s[k].toNat : Int)
           · right; refine ⟨h, ?_⟩; rw [decide_eq_true h] at hdi; simpa using hdi.symm
           · exact .inl h
          subst hD
          have HX := qh9 hX
          clear hdi hd hd2 hX HA
          by_cases hki : k = 0
          · have hX0 : X = [] := by
             have := HX.out
             rw [hki, ext_nil] at this
             exact this.symm
            have HR : Hid (none = R) := by
             have := HN.out
             unfold numXD at this
             rw [if_pos hX0] at this
             exact this
            have d3 : ((k : Int) == 0) = true := by rw [hki]; rfl
            clear hX0 HN HX hki
            rcases e4 with e4 | ⟨e4, e5⟩
            all_goals
             go_wp2
             exact bodyPost_ret (results_tmp3 rfl _ _ _) rfl (NuP.none_ HR.out)
          · have hX0 := ext_ne HX.out (show 0 < k by omega) hk
            have HR : Hid ((if s[k] = 47 ∧ isDigL ((LA s).drop (k + 1)) = true then some ([] ++ X, (LA s).drop (k + 1)) else none) = R) := by
             have := HN.out
             unfold numXD at this
             rw [if_neg hX0] at this
             exact this
            have d3 : ((k : Int) == 0) = false := by rw [beq_eq_false_iff_ne]; omega
            have d4 : ((k : Int) == (s.size : Int)) = false := by rw [beq_eq_false_iff_ne]; omega
            clear hX0 HN hki
            by_cases h47 : s[k] = 47
            · have e6 : ((s[k].toNat : Int) != 47) = false := by rw [h47]; rfl
              have e7 : ¬ (48 : Int) ≤ (s[k].toNat : Int) := by rw [h47]; decide
              have HR2 : Hid ((if isDigL ((LA s).drop (k + 1)) = true then some ([] ++ X, (LA s).drop (k + 1)) else none) = R) := by
               have := HR.out
               show _ = _
               rw [← this]
               by_cases hB : isDigL ((LA s).drop (k + 1)) = true
               · rw [if_pos hB, if_pos ⟨h47, hB⟩]
               · rw [if_neg hB, if_neg (fun h => hB h.2)]
              clear h47 HR e4
              by_cases hk1 : k + 1 = s.size
              · have d5 : ((k : Int) + 1 == (s.size : Int)) = true := by rw [beq_iff_eq]; omega
                have HR3 : Hid (none = R) := by
                 have := HR2.out
                 rw [la_end (show s.size ≤ k + 1 by omega), if_neg (by simp [isDigL])] at this
                 exact this
                clear hk1 HR2
                go_wp2
                exact bodyPost_ret (results_tmp3 rfl _ _ _) rfl (NuP.none_ HR3.out)
              · have d5 : ((k : Int) + 1 == (s.size : Int)) = false := by rw [beq_eq_false_iff_ne]; omega
                have hne : (LA s).drop (k + 1) ≠ [] := by
                 intro h
                 have := congrArg List.length h
                 rw [List.length_drop, la_length] at this
                 simp at this
                 omega
                have HR3 : Hid ((if ((LA s).drop (k + 1)).all digU = true then some ([] ++ X, (LA s).drop (k + 1)) else none) = R) := by
                 have := HR2.out
                 unfold isDigL at this
                 rw [show ((LA s).drop (k + 1)).isEmpty = false by cases h : (LA s).drop (k + 1); exact absurd h hne; rfl] at this
                 exact this
                clear hne HR2 hk1
                go_wp2_with fail
                go_loop [7] (fun v => ∃ n : Nat, k + 1 ≤ n ∧ n ≤ s.size ∧ v = .int .i64 (n : Int) ∧ Hid (((LA s).drop (k + 1)).all digU = ((LA s).drop n).all digU)) (fun v => s.size - (intOf v).toNat)
                case atStart => exact ⟨k + 1, Nat.le_refl _, hlt, by go_num, qh9 rfl⟩
                case round =>
                 obtain ⟨n, hkn, hn, rfl, HQ⟩ := hrel
                 rcases Nat.lt_or_ge n s.size with hnl | hng
                 · have c1 : (n : Int) < (s.size : Int) := by omega
                   have c2 : (0 : Int) ≤ (n : Int) ∧ (n : Int) < (s.size : Int) := by omega
                   have hdi := digU_int s[n]
                   by_cases hd : digU s[n] = true
                   · have f1 : (48 : Int) ≤ (s[n].toNat : Int) ∧ (s[n].toNat : Int) ≤ 57 := by rw [hd] at hdi; simpa using hdi.symm
                     have f2 : ¬ (s[n].toNat : Int) < 48 := by omega
                     have f3 : ¬ (57 : Int) < (s[n].toNat : Int) := by omega
                     have HQ2 : Hid (((LA s).drop (k + 1)).all digU = ((LA s).drop (n + 1)).all digU) := by
                      show _ = _
                      rw [HQ.out, la_drop hnl, List.all_cons, hd, Bool.true_and]
                     clear hdi hd f1 HQ
                     go_wp2
                     go_round
                     case rel => exact ⟨n + 1, by omega, hnl, by go_num, HQ2⟩
                     case measure => simp [intOf]; omega
                   · have hd2 : digU s[n] = false := by simpa using hd
                     have HR4 : Hid (none = R) := by
                      have h1 := HR3.out
                      rw [HQ.out, la_drop hnl, List.all_cons, hd2, Bool.false_and, if_neg (by simp)] at h1
                      exact h1
                     have f1 : (s[n].toNat : Int) < 48 ∨ (¬ (s[n].toNat : Int) < 48 ∧ (57 : Int) < (s[n].toNat : Int)) := by
                      rw [hd2] at hdi
                      by_cases h : (s[n].toNat : Int) < 48
                      · exact .inl h
                      · right; refine ⟨h, ?_⟩; rw [decide_eq_true (show (48 : Int) ≤ (s[n].toNat : Int) by omega)] at hdi; have := hdi.symm; simp at this; omega
                     clear hdi hd hd2 HQ HR3
                     rcases f1 with f1 | ⟨f1, f2⟩
                     all_goals
                      go_wp2
                      exact bodyPost_ret (results_tmp3 rfl _ _ _) rfl (NuP.none_ HR4.out)
                 · have c1 : ¬ (n : Int) < (s.size : Int) := by omega
                   have HR4 : Hid (some ([] ++ X, (LA s).drop (k + 1)) = R) := by
                    have h1 := HR3.out
                    rw [HQ.out, la_end hng, List.all_nil, if_pos rfl] at h1
                    exact h1
                   have b1 : (0 : Int) ≤ (k : Int) ∧ (k : Int) ≤ (s.size : Int) := by omega
                   have b2 : (0 : Int) ≤ (k : Int) + 1 ∧ (k : Int) + 1 ≤ (s.size : Int) := by omega
                   have b3 : (0 : Int) ≤ (k : Int) := by omega
                   have b4 : (k : Int) ≤ (s.size : Int) := by omega
                   have b5 : (k : Int) + 1 ≤ (s.size : Int) := by omega
                   have b6 : (0 : Int) ≤ (k : Int) + 1 := by omega
                   have hw1 : IntKind.i64.wrap ((k : Int) + 1) = (k : Int) + 1 := IntWalk.i64_in _ (by omega)
                   have hn1 : ((k : Int) + 1).toNat = k + 1 := by omega
                   clear HQ HR3 hng
                   go_wp2_with fail
                   go_quiet (fail)
                   clear hw1 hn1
                   go_wp2
                   exact bodyPost_ret (results_tmp3 rfl _ _ _) rfl (NuP.some_ HR4.out (ext_front HX.out) (ba_of (la_extract (show k + 1 ≤ s.size from hlt))) ⟨nq, rfl⟩)
            · have e6 : ((s[k].toNat : Int) != 47) = true := (byte_ne (a := s[k]) (b := 47)).trans (bne_iff_ne.2 h47)
              have HR2 : Hid (none = R) := by
               have := HR.out
               rw [if_neg (fun h => h47 h.1)] at this
               exact this
              clear h47 HR
              rcases e4 with e4 | ⟨e4, e5⟩
              all_goals
               go_wp2
               exact bodyPost_ret (results_tmp3 rfl _ _ _) rfl (NuP.none_ HR2.out)
      · have d1 : ¬ (k : Int) < (s.size : Int) := by omega
        have hks : k = s.size := by omega
        obtain ⟨hX, hD⟩ := HA.out.last hks
        subst hD
        by_cases hki : k = 0
        · have hX0 : X = [] := by
           rw [hki, ext_nil] at hX
           exact hX.symm
          have HR : Hid (none = R) := by
           have := HN.out
           unfold numXD at this
           rw [if_pos hX0] at this
           exact this
          have d3 : ((k : Int) == 0) = true := by rw [hki]; rfl
          clear hX0 HN hX hki hks HA
          go_wp2
          exact bodyPost_ret (results_tmp3 rfl _ _ _) rfl (NuP.none_ HR.out)
        · have hX0 := ext_ne hX (show 0 < k by omega) hk
          have HR : Hid (some (LA s, [49]) = R) := by
           have := HN.out
           unfold numXD at this
           rw [if_neg hX0] at this
           exact this
          have d3 : ((k : Int) == 0) = false := by rw [beq_eq_false_iff_ne]; omega
          have d4 : ((k : Int) == (s.size : Int)) = true := by rw [beq_iff_eq]; omega
          clear hX0 HN hX hki hks HA
          go_wp2
          exact bodyPost_ret (results_tmp3 rfl _ _ _) rfl (NuP.some_ HR.out rfl rfl ⟨0, rfl⟩)

def erX {α : Type} : Sc α → Int
 | .ok _ _ => 0
 | .bad x _ => x
def erP {α : Type} : Sc α → Int
 | .ok _ _ => 0
 | .bad _ p => p
def SymB (p : Int) (q b r : List UInt8) (SN SR : Sc Tk) : Prop := (SR = .ok ⟨6, p, q, b, []⟩ r ∧ erX SN = 0 ∧ erP SN = 0) ∨ SR = .bad (erX SN) (erP SN)










def tokR : Except (Int × Int) (List Tk) → List Tk
 | .ok ts => ts
 | .error _ => []
def errR {α : Type} : Except (Int × Int) α → Int × Int
 | .ok _ => (0, 0)
 | .error x => x
/-- The call returned this text; what was there before stands. -/
def RetTU (w : World) (s : ByteArray) (e : Ending) (w' : World) : Prop := e = .returned (.string s) ∧ Below w.heap.size w w'
/-- A text and a code. -/
def RetTE (w : World) (s : ByteArray) (n : Int) (e : Ending) (w' : World) : Prop := e = .returned (.tuple #[.string s, .int .i64 n]) ∧ Below w.heap.size w w'
theorem below_al (w : World) (x : Obj) : Below w.heap.size w (w.alloc x) := Below.alloc (Below.refl _ _) (Nat.le_refl _) _
theorem existsP (l : List Sy.Pg) (v : Value) (cur : ByteArray) (w : World) (hv : Sy.PgV w l v) (hl : l.length ≤ 1000000) :
 Calls Tryz.prog 34 #[v, .string cur] w (RetB w (Sy.findM l cur).isSome) := by
 have CF := Sy.findY l v cur w hv hl
 clear hv
 cases hf : Sy.findM l cur with
 | none =>
  rw [hf] at CF
  replace CF := qh9 CF
  clear hf
  go_enter Tryz.func34, Tryz.ntmps34
  go_wp2_with fail
  refine CF.out.mono ?_
  rintro e w1 ⟨rfl, hb⟩
  have HB := qh9 hb
  clear hb CF
  go_wp2
  go_ret
  exact ⟨rfl, chain2 HB.out (below_al _ _) (Nat.le_refl _)⟩
 | some p =>
  rw [hf] at CF
  replace CF := qh9 CF
  clear hf
  go_enter Tryz.func34, Tryz.ntmps34
  go_wp2_with fail
  refine CF.out.mono ?_
  rintro e w1 ⟨u, rfl, hu, hb⟩
  obtain ⟨A1, cc1, rfl, _, _, _⟩ := hu
  have HB := qh9 hb
  clear hb CF
  go_wp2
  go_ret
  exact ⟨rfl, chain2 HB.out (below_al _ _) (Nat.le_refl _)⟩
theorem scanS_bad {s : ByteArray} {x : Int × Int} (h : scanS s = .error x) : x.1 ≠ 0 := by
 unfold scanS at h
 split at h
 · injection h with h; rw [← h]; decide
 · exact toksL_bad okP numP sizP _ _ _ _ (Nat.le_refl _) h
theorem scanS_ne {s : ByteArray} {ts : List Tk} (h : scanS s = .ok ts) : ts ≠ [] := by
 unfold scanS at h
 split at h
 · cases h
 · exact toksL_ne okP numP sizP h
theorem isWordP (p n : ByteArray) (w : World) (hz : p.size + n.size ≤ 1000) : Calls Tryz.prog 70 #[.string p, .string n] w (RetB w (headSym (scanS (p ++ n)) (LA n))) := by
 have CT := tokensP (p ++ n) w (by rw [ByteArray.size_append]; omega)
 obtain ⟨R, hR⟩ : ∃ R, scanS (p ++ n) = R := ⟨_, rfl⟩
 rw [hR] at CT ⊢
 cases R with
 | error x =>
  have hx := scanS_bad hR
  obtain ⟨x1, x2⟩ := x
  replace hx : ¬ x1 = 0 := hx
  have hq : (x1 == 0) = false := by rw [beq_eq_false_iff_ne]; exact hx
  replace CT := qh9 CT
  clear hR hx
  go_enter Tryz.func70, Tryz.ntmps70
  go_wp2_with fail
  refine CT.out.mono ?_
  rintro e w1 ⟨hb, rfl⟩
  have HB := qh9 hb
  clear hb CT
  go_wp2
  go_ret
  exact ⟨rfl, chain2 HB.out (below_al _ _) (Nat.le_refl _)⟩
 | ok ts =>
  cases ts with
  | nil => exact absurd rfl (scanS_ne hR)
  | cons t ts =>
   replace CT := qh9 CT
   clear hR
   have hv : headSym (.ok (t :: ts)) (LA n) = ((t.k == 6) && ((BA t.txt).toList == n.toList)) := by
    show (decide (t.k = 6) && (t.txt == LA n)) = _
    congr 1
    rw [Bool.eq_iff_iff]
    simp only [beq_iff_eq, Lib.toList_data]
    exact Iff.rfl
   rw [hv]
   clear hv
   go_enter Tryz.func70, Tryz.ntmps70
   go_wp2_with fail
   refine CT.out.mono ?_
   rintro e w1 ⟨hb, v, rfl, hT⟩
   have HB := qh9 (chain2 hb (below_al w1 (.cells #[.int .i64 0, .int .i64 0] 46)) (Nat.le_refl _))
   obtain ⟨b, o, c, rfl, hlt, k0, _, _, k3, _⟩ := (hT.keep (below_al w1 (.cells #[.int .i64 0, .int .i64 0] 46))).at 0 (by simp)
   have g0 := heap_alloc_new w1 (.cells #[.int .i64 0, .int .i64 0] 46)
   simp only [List.getElem_cons_zero, Nat.zero_mul, Nat.add_zero] at k0 k3
   have hl0 : (0 : Int) < (((t :: ts).length : Nat) : Int) := by rw [List.length_cons]; omega
   clear hb CT hT
   go_upto_region 2 with fail
   generalize w1.alloc (.cells #[.int .i64 0, .int .i64 0] 46) = W at HB k0 k3 g0 ⊢
   have r0 : W.cell? ⟨w1.heap.size, 0, none⟩ = some (.int .i64 0) := by rw [cell_of_row _ _ _ _ _ _ g0]; rfl
   clear g0
   generalize (t :: ts).length = L at hl0 ⊢
   obtain ⟨tk, tp, tq, tt, td⟩ := t
   simp only at k0 k3 ⊢
   by_cases h6 : tk = 6
   · subst h6
     go_wp2
     go_ret
     exact ⟨rfl, HB.out⟩
   · have hq : (tk == 6) = false := by rw [beq_eq_false_iff_ne]; exact h6
     rw [hq]
     go_wp2
     go_ret
     exact ⟨rfl, HB.out⟩
end Go.Proofs.YtlmnjelideegnaaGreatDoor
